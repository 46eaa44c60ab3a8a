/-
  Contracts of impl.twoGauges, spec.l3Find over this translation. Conditions: stated at each theorem.
-/
import Derived.Test.YtdmnkmdlochogaaAgs
namespace Go.Proofs.Ytdmnkmdlochogaa
open Go.RowKit

/-- The place of the gauge with an id, or -1. -/
def plI (L : List GG) (i : Int) : Int := firstI (idB i) L
theorem pl_at {L : List GG} {i : Int} (h : 0 ≤ plI L i) : ∃ k : Nat, plI L i = k ∧ k < L.length ∧ (gOf L k).id = i := by
  unfold plI firstI at h ⊢
  split at h
  · rename_i h1
    refine ⟨_, by rw [if_pos h1], h1, ?_⟩
    have h2 := List.findIdx_getElem (w := h1)
    unfold gOf
    rw [List.getD_eq_getElem?_getD, List.getElem?_eq_getElem h1]
    exact of_decide_eq_true h2
  · omega
theorem pl_found {L : List GG} {i : Int} {k : Nat} (hk : k < L.length) (h1 : ∀ p (h : p < L.length), p < k → (L[p]).id ≠ i) (h2 : (L[k]).id = i) : plI L i = k := by
  have e : L.findIdx (idB i) = k := findG_is (Nat.le_of_lt hk) (fun p h hp => decide_eq_false (h1 p h hp)) (fun _ => decide_eq_true h2)
  unfold plI firstI
  rw [e, if_pos hk]
theorem pl_none {L : List GG} {i : Int} (h1 : ∀ p (h : p < L.length), (L[p]).id ≠ i) : plI L i = -1 := by
  have e : L.findIdx (idB i) = L.length := findG_is (Nat.le_refl _) (fun p h _ => decide_eq_false (h1 p h)) (fun h => absurd h (by omega))
  unfold plI firstI
  rw [e, if_neg (by omega)]
set_option maxHeartbeats 800000 in
theorem find_spec (A : Option Addr) (n c : Nat) (L : List GG) (i : Int) (w : World) (hs : Gauges w w.heap.size A n L) (hm : n ≤ maxLen) :
    Calls Try.prog 93 #[.slice A n c, .int .i64 i] w fun e w' => e = .returned (.int .i64 (plI L i)) ∧ w = w' := by
  obtain rfl := hs.1
  have HS := Lib.hid hs
  clear hs
  unfold maxLen at hm
  go_enter Try.func93, Try.ntmps93
  go_wp2_with fail
  go_loop [5] (fun i' => ∃ k : Nat, k ≤ L.length ∧ i' = .int .i64 k ∧ Hid (∀ p (h : p < L.length), p < k → (L[p]).id ≠ i)) (fun i' => L.length - (intOf i').toNat)
  case atStart => exact ⟨0, Nat.zero_le _, rfl, Lib.hid fun p h h' => absurd h' (by omega)⟩
  case round =>
    obtain ⟨k, hk, rfl, hN⟩ := hrel
    by_cases hlt : k < L.length
    · obtain ⟨b, o, id, nm, ze, l, A', c', rfl, hb, hL, c0, c1, c2, c3, _⟩ := HS.out.2 k hlt
      have HK := Lib.hid (List.getElem?_eq_some_iff.1 hL)
      clear hL c1 c2 c3
      by_cases hx : id = i
      · have HR : Hid (plI L i = k) := pl_found hlt (fun p h hp => hN.out p h hp) (by obtain ⟨_, e⟩ := HK.out; rw [e]; exact hx)
        subst hx
        go_wp2_with fail
        go_ret
        exact ⟨ret_int HR.out.symm, rfl⟩
      · have hxb : (id == i) = false := beq_eq_false_iff_ne.2 hx
        have HN : Hid (∀ p (h : p < L.length), p < k + 1 → (L[p]).id ≠ i) := Lib.hid fun p h hp => by
          rcases Nat.lt_or_ge p k with h1 | h1
          · exact hN.out p h h1
          · obtain rfl : p = k := by omega
            obtain ⟨_, e⟩ := HK.out
            rw [e]; exact hx
        clear hx
        go_wp2_with fail
        go_round
        case rel => exact ⟨k + 1, by omega, by go_num, HN⟩
        case measure => simp [intOf]; omega
    · have HR : Hid (plI L i = -1) := pl_none fun p h => hN.out p h (by omega)
      go_wp2_with fail
      go_ret
      exact ⟨ret_int HR.out.symm, rfl⟩
/-- Are there gauges with both ids? -/
def twoK (L : List GG) (a b : Int) : Bool := areB L && decide (0 ≤ plI L a) && decide (0 ≤ plI L b) && decide (a ≠ b)
def gAt (L : List GG) (a : Int) : GG := gOf L (plI L a).toNat
def cs4 (g : GG) (A : Option Addr) (c : Nat) : List Value := [.int .i64 g.id, .string g.nm, .int .i64 g.ze, .slice A g.l.length c]
def z4 : List Value := [.int .i64 0, .string ⟨#[]⟩, .int .i64 0, .slice none 0 0]
def TwoPost (L : List GG) (a b : Int) (w : World) (e : Ending) (w' : World) : Prop :=
  (twoK L a b = false ∧ e = .returned (.tuple #[.agg #[.int .i64 0, .string ⟨#[]⟩, .int .i64 0, .slice none 0 0, .int .i64 0, .string ⟨#[]⟩, .int .i64 0, .slice none 0 0], .bool false]) ∧ Below w.heap.size w w') ∨
  (twoK L a b = true ∧ ∃ A1 c1 A2 c2, e = .returned (.tuple #[.agg #[.int .i64 (gAt L a).id, .string (gAt L a).nm, .int .i64 (gAt L a).ze, .slice A1 (gAt L a).l.length c1, .int .i64 (gAt L b).id, .string (gAt L b).nm, .int .i64 (gAt L b).ze, .slice A2 (gAt L b).l.length c2], .bool true]) ∧
    Spots w' w'.heap.size A1 (gAt L a).l.length (gAt L a).l ∧ Spots w' w'.heap.size A2 (gAt L b).l.length (gAt L b).l ∧ Below w.heap.size w w')
theorem gauge_of_list {w : World} {n : Nat} {A : Option Addr} {L : List GG} {i : Int} (h : Gauges w w.heap.size A n L) (hp : 0 ≤ plI L i) :
    ∃ (b o k : Nat) (A' : Option Addr) (c : Nat), plI L i = k ∧ k < n ∧ A = some ⟨b, o, none⟩ ∧ b < w.heap.size ∧
      w.cell? ⟨b, o + k * 4, none⟩ = some (.int .i64 (gAt L i).id) ∧ w.cell? ⟨b, o + k * 4 + 1, none⟩ = some (.string (gAt L i).nm) ∧ w.cell? ⟨b, o + k * 4 + 2, none⟩ = some (.int .i64 (gAt L i).ze) ∧ w.cell? ⟨b, o + k * 4 + 3, none⟩ = some (.slice A' (gAt L i).l.length c) ∧
      Spots w w.heap.size A' (gAt L i).l.length (gAt L i).l ∧ (gAt L i).l.length ≤ maxLen ∧ (gAt L i).nm.size ≤ maxLen := by
  obtain ⟨k, hk, hkl, hid⟩ := pl_at hp
  obtain ⟨b, o, id, nm, ze, l, A', c, hA, hlt, hL, h0, h1, h2, h3, r⟩ := h.2 k (by rw [← h.1]; exact hkl)
  have e : gAt L i = ⟨id, nm, ze, l⟩ := by unfold gAt; rw [hk, Int.toNat_natCast]; exact gOf_at hL
  rw [e]
  exact ⟨b, o, k, A', c, hk, by rw [← h.1]; exact hkl, hA, hlt, h0, h1, h2, h3, r⟩
theorem idx_any (i : Int) (p : Nat) (A : Option Addr) (n c : Nat) (L : List GG) (w : World) (hs : Gauges w w.heap.size A n L) (hm : n ≤ maxLen) (hp : w.cell? ⟨p, 0, none⟩ = some (.int .i64 i)) :
    Calls Try.prog 156 #[.slice A n c, .func (.func 157) #[] #[.pointer (some ⟨p, 0, none⟩)]] w fun e w' => e = .returned (.int .i64 (plI L i)) ∧ Below w.heap.size w w' :=
  indexId_any (idB i) (.pointer (some ⟨p, 0, none⟩)) A n c L w hs hm (fun W id ze nm l A' n' c' hb => idIs_any i p id ze nm A' n' c' l W (cell_next hb hp))
theorem two_no {L : List GG} {a b : Int} {w w' : World} (h : twoK L a b = false) (hb : Below w.heap.size w w') : TwoPost L a b w (.returned (.tuple #[.agg #[.int .i64 0, .string ⟨#[]⟩, .int .i64 0, .slice none 0 0, .int .i64 0, .string ⟨#[]⟩, .int .i64 0, .slice none 0 0], .bool false])) w' := .inl ⟨h, rfl, hb⟩
set_option maxRecDepth 100000 in
set_option maxHeartbeats 1600000 in
theorem two_impl (A : Option Addr) (n c : Nat) (L : List GG) (a b : Int) (w : World) (hs : Gauges w w.heap.size A n L) (hm : n ≤ maxLen) (hcap : n ≤ c) :
    Calls Try.prog 89 #[.slice A n c, .int .i64 a, .int .i64 b] w (TwoPost L a b w) := by
  obtain rfl := hs.1
  obtain ⟨U, hU⟩ : ∃ U, U = w.alloc (.cells #[.int .i64 0, .string ⟨#[]⟩, .int .i64 0, .slice none 0 0, .int .i64 0, .string ⟨#[]⟩, .int .i64 0, .slice none 0 0] 106) := ⟨_, rfl⟩
  have HU : Hid (Below w.heap.size w U ∧ Has U w.heap.size [.int .i64 0, .string ⟨#[]⟩, .int .i64 0, .slice none 0 0, .int .i64 0, .string ⟨#[]⟩, .int .i64 0, .slice none 0 0]) := by rw [hU]; exact box1 (Below.refl _ _)
  have HE := Lib.hid hU
  have HS := Lib.hid hs
  clear hs hU
  rcases hg : areB L with _ | _
  · have HG := Lib.hid hg
    have HR : Hid (twoK L a b = false) := by unfold Hid twoK; rw [hg]; rfl
    clear hg
    go_enter Try.func89, Try.ntmps89
    go_wp2_with fail
    rw [← HE.out]
    refine (areG_v _ _ _ L _ HG.out _ (gauges_at HS.out HU.out.1) hm hcap).mono ?_
    rintro e w1 ⟨rfl, hb⟩
    have HN := Lib.hid (And.intro (bthen HU.out.1 hb HU.out.1.size) (HU.out.2.next hb))
    clear hb
    have z0 := HN.out.2.at_ 0 _ rfl
    have z1 := HN.out.2.at_ 1 _ rfl
    have z2 := HN.out.2.at_ 2 _ rfl
    have z3 := HN.out.2.at_ 3 _ rfl
    have z4 := HN.out.2.at_ 4 _ rfl
    have z5 := HN.out.2.at_ 5 _ rfl
    have z6 := HN.out.2.at_ 6 _ rfl
    have z7 := HN.out.2.at_ 7 _ rfl
    have zf0 := HN.out.2.free 0
    have zf1 := HN.out.2.free 1
    have zf2 := HN.out.2.free 2
    have zf3 := HN.out.2.free 3
    have zf4 := HN.out.2.free 4
    have zf5 := HN.out.2.free 5
    have zf6 := HN.out.2.free 6
    have zf7 := HN.out.2.free 7
    go_wp2_with fail
    refine bodyPost_ret (v := .tuple #[.agg #[.int .i64 0, .string ⟨#[]⟩, .int .i64 0, .slice none 0 0, .int .i64 0, .string ⟨#[]⟩, .int .i64 0, .slice none 0 0], .bool false]) (by simp [results, Try.results89, go_sem, z0, z1, z2, z3, z4, z5, z6, z7]) rfl (two_no HR.out ?_)
    iterate 8 (refine Below.setCell ?_ (by simp) _)
    exact HN.out.1
  by_cases hab : a = b
  · have HG := Lib.hid hg
    have HR : Hid (twoK L a b = false) := by unfold Hid twoK; rw [show decide (a ≠ b) = false from decide_eq_false (fun h => h hab), Bool.and_false]
    have heq : (a == b) = true := by simpa using hab
    clear hg hab
    go_enter Try.func89, Try.ntmps89
    go_wp2_with fail
    rw [← HE.out]
    refine (areG_v _ _ _ L _ HG.out _ (gauges_at HS.out HU.out.1) hm hcap).mono ?_
    rintro e w1 ⟨rfl, hb⟩
    have HN := Lib.hid (And.intro (bthen HU.out.1 hb HU.out.1.size) (HU.out.2.next hb))
    clear hb
    have z0 := HN.out.2.at_ 0 _ rfl
    have z1 := HN.out.2.at_ 1 _ rfl
    have z2 := HN.out.2.at_ 2 _ rfl
    have z3 := HN.out.2.at_ 3 _ rfl
    have z4 := HN.out.2.at_ 4 _ rfl
    have z5 := HN.out.2.at_ 5 _ rfl
    have z6 := HN.out.2.at_ 6 _ rfl
    have z7 := HN.out.2.at_ 7 _ rfl
    have zf0 := HN.out.2.free 0
    have zf1 := HN.out.2.free 1
    have zf2 := HN.out.2.free 2
    have zf3 := HN.out.2.free 3
    have zf4 := HN.out.2.free 4
    have zf5 := HN.out.2.free 5
    have zf6 := HN.out.2.free 6
    have zf7 := HN.out.2.free 7
    go_wp2_with fail
    refine bodyPost_ret (v := .tuple #[.agg #[.int .i64 0, .string ⟨#[]⟩, .int .i64 0, .slice none 0 0, .int .i64 0, .string ⟨#[]⟩, .int .i64 0, .slice none 0 0], .bool false]) (by simp [results, Try.results89, go_sem, z0, z1, z2, z3, z4, z5, z6, z7]) rfl (two_no HR.out ?_)
    iterate 8 (refine Below.setCell ?_ (by simp) _)
    exact HN.out.1
  have HG := Lib.hid hg
  have HAB := Lib.hid hab
  have heq : (a == b) = false := beq_eq_false_iff_ne.2 hab
  clear hg hab
  go_enter Try.func89, Try.ntmps89
  go_wp2_with fail
  rw [← HE.out]
  refine (areG_v _ _ _ L _ HG.out _ (gauges_at HS.out HU.out.1) hm hcap).mono ?_
  rintro e w2 ⟨rfl, hb⟩
  have HB2 := Lib.hid (And.intro (bthen HU.out.1 hb HU.out.1.size) (HU.out.2.next hb))
  clear hb
  have j0 : ∀ w, (Instr.index 164 (.agg #[.int .i64 a, .int .i64 b]) (.int .i64 0)).run Try.prog w = .ok (.int .i64 a) w := fun _ => by kernel_rfl
  have j1 : ∀ w, (Instr.index 164 (.agg #[.int .i64 a, .int .i64 b]) (.int .i64 1)).run Try.prog w = .ok (.int .i64 b) w := fun _ => by kernel_rfl
  obtain ⟨X, hX⟩ : ∃ X, X = w2.alloc (.cells #[.int .i64 0, .string ⟨#[]⟩, .int .i64 0, .slice none 0 0, .int .i64 0, .string ⟨#[]⟩, .int .i64 0, .slice none 0 0] 106) := ⟨_, rfl⟩
  have HX : Hid (Below w2.heap.size w2 X ∧ Has X w2.heap.size [.int .i64 0, .string ⟨#[]⟩, .int .i64 0, .slice none 0 0, .int .i64 0, .string ⟨#[]⟩, .int .i64 0, .slice none 0 0]) := by rw [hX]; exact box1 (Below.refl _ _)
  have HEX := Lib.hid hX
  clear hX
  go_wp2_with fail
  rw [← HEX.out]
  go_loopw [25] (fun i wr => ∃ k : Nat, k ≤ 2 ∧ i = .int .i64 k ∧ Hid (Below w2.heap.size w2 wr ∧ (k = 0 → Has wr w2.heap.size [.int .i64 0, .string ⟨#[]⟩, .int .i64 0, .slice none 0 0, .int .i64 0, .string ⟨#[]⟩, .int .i64 0, .slice none 0 0]) ∧
      (k = 1 → 0 ≤ plI L a ∧ ∃ A1 c1, Has wr w2.heap.size [.int .i64 (gAt L a).id, .string (gAt L a).nm, .int .i64 (gAt L a).ze, .slice A1 (gAt L a).l.length c1, .int .i64 0, .string ⟨#[]⟩, .int .i64 0, .slice none 0 0] ∧ Spots w w.heap.size A1 (gAt L a).l.length (gAt L a).l) ∧
      (k = 2 → 0 ≤ plI L a ∧ 0 ≤ plI L b ∧ ∃ A1 c1 A2 c2, Has wr w2.heap.size [.int .i64 (gAt L a).id, .string (gAt L a).nm, .int .i64 (gAt L a).ze, .slice A1 (gAt L a).l.length c1, .int .i64 (gAt L b).id, .string (gAt L b).nm, .int .i64 (gAt L b).ze, .slice A2 (gAt L b).l.length c2] ∧ Spots w w.heap.size A1 (gAt L a).l.length (gAt L a).l ∧ Spots w w.heap.size A2 (gAt L b).l.length (gAt L b).l))) (fun i _ => 2 - (intOf i).toNat)
  case atStart => exact ⟨0, by omega, rfl, Lib.hid ⟨HX.out.1, fun _ => HX.out.2, fun h => absurd h (by omega), fun h => absurd h (by omega)⟩⟩
  case round =>
    obtain ⟨k, hk, rfl, hR⟩ := hrel
    have hRB := Lib.hid (bthen HB2.out.1 hR.out.1 HB2.out.1.size)
    rcases k with _ | _ | _ | k
    · have HM := Lib.hid (hR.out.2.1 rfl)
      obtain ⟨W0, hW0⟩ : ∃ W0, W0 = wr.alloc (.cells #[.int .i64 a] 3) := ⟨_, rfl⟩
      have HW : Hid (Below wr.heap.size wr W0 ∧ Has W0 wr.heap.size [.int .i64 a]) := by rw [hW0]; exact box1 (Below.refl _ _)
      have HEW := Lib.hid hW0
      have HBW := Lib.hid (bthen hRB.out HW.out.1 hRB.out.size)
      have q0 := HW.out.2.at_ 0 _ rfl
      have HQ0 := Lib.hid q0
      clear hW0 q0
      go_wp2_with fail
      rw [← HEW.out]
      refine (idx_any a _ _ _ _ L _ (gauges_at HS.out HBW.out) hm HQ0.out).mono ?_
      rintro e w5 ⟨rfl, hb⟩
      have HB5 := Lib.hid (And.intro (bthen HBW.out hb HBW.out.size) (And.intro (bthen (bthen hR.out.1 HW.out.1 hR.out.1.size) hb (bthen hR.out.1 HW.out.1 hR.out.1.size).size) (And.intro ((HM.out.next HW.out.1).next hb) (bthen HW.out.1 hb HW.out.1.size))))
      clear hb
      rcases Int.lt_or_le (plI L a) 0 with hp | hp
      · have HR : Hid (twoK L a b = false) := by unfold Hid twoK; rw [decide_eq_false (p := 0 ≤ plI L a) (by omega)]; simp
        have HN := Lib.hid (HB2.out.2.next HB5.out.2.1)
        have z0 := HN.out.at_ 0 _ rfl
        have z1 := HN.out.at_ 1 _ rfl
        have z2 := HN.out.at_ 2 _ rfl
        have z3 := HN.out.at_ 3 _ rfl
        have z4 := HN.out.at_ 4 _ rfl
        have z5 := HN.out.at_ 5 _ rfl
        have z6 := HN.out.at_ 6 _ rfl
        have z7 := HN.out.at_ 7 _ rfl
        have zf0 := HN.out.free 0
        have zf1 := HN.out.free 1
        have zf2 := HN.out.free 2
        have zf3 := HN.out.free 3
        have zf4 := HN.out.free 4
        have zf5 := HN.out.free 5
        have zf6 := HN.out.free 6
        have zf7 := HN.out.free 7
        go_wp2_with fail
        refine bodyPost_ret (v := .tuple #[.agg #[.int .i64 0, .string ⟨#[]⟩, .int .i64 0, .slice none 0 0, .int .i64 0, .string ⟨#[]⟩, .int .i64 0, .slice none 0 0], .bool false]) (by simp [results, Try.results89, go_sem, z0, z1, z2, z3, z4, z5, z6, z7]) rfl (two_no HR.out ?_)
        iterate 8 (refine Below.setCell ?_ (by simp) _)
        exact HB5.out.1
      · obtain ⟨b0, o0, k0, A5, c5, hpk, hk0, rfl, hb0, g0', g1', g2', g3', hsp, _, _⟩ := gauge_of_list HS.out hp
        have g0 := cell_next HB5.out.1 g0'
        have g1 := cell_next HB5.out.1 g1'
        have g2 := cell_next HB5.out.1 g2'
        have g3 := cell_next HB5.out.1 g3'
        clear g0' g1' g2' g3'
        have HSP := Lib.hid (And.intro hp hsp)
        have hp0 : ¬ plI L a < 0 := by omega
        have hp1 : plI L a < L.length := by omega
        clear hsp
        have m0 := HB5.out.2.2.1.at_ 0 _ rfl
        have m1 := HB5.out.2.2.1.at_ 1 _ rfl
        have m2 := HB5.out.2.2.1.at_ 2 _ rfl
        have m3 := HB5.out.2.2.1.at_ 3 _ rfl
        have mf0 := HB5.out.2.2.1.free 0
        have mf1 := HB5.out.2.2.1.free 1
        have mf2 := HB5.out.2.2.1.free 2
        have mf3 := HB5.out.2.2.1.free 3
        have HN1 := Lib.hid ((((HB5.out.2.2.1.set 0 (.int .i64 (gAt L a).id)).set 1 (.string (gAt L a).nm)).set 2 (.int .i64 (gAt L a).ze)).set 3 (.slice A5 (gAt L a).l.length c5))
        have HN2 := Lib.hid ((((HB5.out.2.1.setCell (p := ⟨w2.heap.size, 0, none⟩) (Nat.le_refl _) (.int .i64 (gAt L a).id)).setCell (p := ⟨w2.heap.size, 1, none⟩) (Nat.le_refl _) (.string (gAt L a).nm)).setCell (p := ⟨w2.heap.size, 2, none⟩) (Nat.le_refl _) (.int .i64 (gAt L a).ze)).setCell (p := ⟨w2.heap.size, 3, none⟩) (Nat.le_refl _) (.slice A5 (gAt L a).l.length c5))
        go_wp2_with fail
        clear m0 mf0 m1 mf1 m2 mf2 m3 mf3 g0 g1 g2 g3
        obtain ⟨Y, hY⟩ : ∃ Y, Y = (((w5.setCell ⟨w2.heap.size, 0, none⟩ (.int .i64 (gAt L a).id)).setCell ⟨w2.heap.size, 1, none⟩ (.string (gAt L a).nm)).setCell ⟨w2.heap.size, 2, none⟩ (.int .i64 (gAt L a).ze)).setCell ⟨w2.heap.size, 3, none⟩ (.slice A5 (gAt L a).l.length c5) := ⟨_, rfl⟩
        rw [← hY] at HN1 HN2
        rw [← hY]
        clear hY
        go_roundw
        case rel => exact ⟨1, by omega, rfl, Lib.hid ⟨HN2.out, fun h => absurd h (by omega), fun _ => ⟨HSP.out.1, A5, c5, HN1.out, HSP.out.2⟩, fun h => absurd h (by omega)⟩⟩
        case measure => simp [intOf]
    · obtain ⟨hpa, A1, c1, hh, hsa⟩ := hR.out.2.2.1 rfl
      have HM := Lib.hid hh
      have HPA := Lib.hid (And.intro hpa hsa)
      clear hh hpa hsa
      obtain ⟨W0, hW0⟩ : ∃ W0, W0 = wr.alloc (.cells #[.int .i64 b] 3) := ⟨_, rfl⟩
      have HW : Hid (Below wr.heap.size wr W0 ∧ Has W0 wr.heap.size [.int .i64 b]) := by rw [hW0]; exact box1 (Below.refl _ _)
      have HEW := Lib.hid hW0
      have HBW := Lib.hid (bthen hRB.out HW.out.1 hRB.out.size)
      have q0 := HW.out.2.at_ 0 _ rfl
      have HQ0 := Lib.hid q0
      clear hW0 q0
      go_wp2_with fail
      rw [← HEW.out]
      refine (idx_any b _ _ _ _ L _ (gauges_at HS.out HBW.out) hm HQ0.out).mono ?_
      rintro e w5 ⟨rfl, hb⟩
      have HB5 := Lib.hid (And.intro (bthen HBW.out hb HBW.out.size) (And.intro (bthen (bthen hR.out.1 HW.out.1 hR.out.1.size) hb (bthen hR.out.1 HW.out.1 hR.out.1.size).size) (And.intro ((HM.out.next HW.out.1).next hb) (bthen HW.out.1 hb HW.out.1.size))))
      clear hb
      rcases Int.lt_or_le (plI L b) 0 with hp | hp
      · have HR : Hid (twoK L a b = false) := by unfold Hid twoK; rw [decide_eq_false (p := 0 ≤ plI L b) (by omega)]; simp
        have HN := Lib.hid (HB2.out.2.next HB5.out.2.1)
        have z0 := HN.out.at_ 0 _ rfl
        have z1 := HN.out.at_ 1 _ rfl
        have z2 := HN.out.at_ 2 _ rfl
        have z3 := HN.out.at_ 3 _ rfl
        have z4 := HN.out.at_ 4 _ rfl
        have z5 := HN.out.at_ 5 _ rfl
        have z6 := HN.out.at_ 6 _ rfl
        have z7 := HN.out.at_ 7 _ rfl
        have zf0 := HN.out.free 0
        have zf1 := HN.out.free 1
        have zf2 := HN.out.free 2
        have zf3 := HN.out.free 3
        have zf4 := HN.out.free 4
        have zf5 := HN.out.free 5
        have zf6 := HN.out.free 6
        have zf7 := HN.out.free 7
        go_wp2_with fail
        refine bodyPost_ret (v := .tuple #[.agg #[.int .i64 0, .string ⟨#[]⟩, .int .i64 0, .slice none 0 0, .int .i64 0, .string ⟨#[]⟩, .int .i64 0, .slice none 0 0], .bool false]) (by simp [results, Try.results89, go_sem, z0, z1, z2, z3, z4, z5, z6, z7]) rfl (two_no HR.out ?_)
        iterate 8 (refine Below.setCell ?_ (by simp) _)
        exact HB5.out.1
      · obtain ⟨b0, o0, k0, A5, c5, hpk, hk0, rfl, hb0, g0', g1', g2', g3', hsp, _, _⟩ := gauge_of_list HS.out hp
        have g0 := cell_next HB5.out.1 g0'
        have g1 := cell_next HB5.out.1 g1'
        have g2 := cell_next HB5.out.1 g2'
        have g3 := cell_next HB5.out.1 g3'
        clear g0' g1' g2' g3'
        have HSP := Lib.hid (And.intro hp hsp)
        have hp0 : ¬ plI L b < 0 := by omega
        have hp1 : plI L b < L.length := by omega
        clear hsp
        have m4 := HB5.out.2.2.1.at_ 4 _ rfl
        have m5 := HB5.out.2.2.1.at_ 5 _ rfl
        have m6 := HB5.out.2.2.1.at_ 6 _ rfl
        have m7 := HB5.out.2.2.1.at_ 7 _ rfl
        have mf4 := HB5.out.2.2.1.free 4
        have mf5 := HB5.out.2.2.1.free 5
        have mf6 := HB5.out.2.2.1.free 6
        have mf7 := HB5.out.2.2.1.free 7
        have HN1 := Lib.hid ((((HB5.out.2.2.1.set 4 (.int .i64 (gAt L b).id)).set 5 (.string (gAt L b).nm)).set 6 (.int .i64 (gAt L b).ze)).set 7 (.slice A5 (gAt L b).l.length c5))
        have HN2 := Lib.hid ((((HB5.out.2.1.setCell (p := ⟨w2.heap.size, 4, none⟩) (Nat.le_refl _) (.int .i64 (gAt L b).id)).setCell (p := ⟨w2.heap.size, 5, none⟩) (Nat.le_refl _) (.string (gAt L b).nm)).setCell (p := ⟨w2.heap.size, 6, none⟩) (Nat.le_refl _) (.int .i64 (gAt L b).ze)).setCell (p := ⟨w2.heap.size, 7, none⟩) (Nat.le_refl _) (.slice A5 (gAt L b).l.length c5))
        go_wp2_with fail
        clear m4 mf4 m5 mf5 m6 mf6 m7 mf7 g0 g1 g2 g3
        obtain ⟨Y, hY⟩ : ∃ Y, Y = (((w5.setCell ⟨w2.heap.size, 4, none⟩ (.int .i64 (gAt L b).id)).setCell ⟨w2.heap.size, 5, none⟩ (.string (gAt L b).nm)).setCell ⟨w2.heap.size, 6, none⟩ (.int .i64 (gAt L b).ze)).setCell ⟨w2.heap.size, 7, none⟩ (.slice A5 (gAt L b).l.length c5) := ⟨_, rfl⟩
        rw [← hY] at HN1 HN2
        rw [← hY]
        clear hY
        go_roundw
        case rel => exact ⟨2, by omega, rfl, Lib.hid ⟨HN2.out, fun h => absurd h (by omega), fun h => absurd h (by omega), fun _ => ⟨HPA.out.1, HSP.out.1, A1, c1, A5, c5, HN1.out, HPA.out.2, HSP.out.2⟩⟩⟩
        case measure => simp [intOf]
    · obtain ⟨hpa, hpb, A1, c1, A2, c2, hh, hsa, hsb⟩ := hR.out.2.2.2 rfl
      have HM := Lib.hid hh
      have HR : Hid (twoK L a b = true) := by unfold Hid twoK; rw [HG.out, decide_eq_true hpa, decide_eq_true hpb, show decide (a ≠ b) = true from decide_eq_true HAB.out]; rfl
      have HSAB := Lib.hid (And.intro hsa hsb)
      clear hh hsa hsb hpa hpb
      have HN := Lib.hid (HB2.out.2.next hR.out.1)
      have m0 := HM.out.at_ 0 _ rfl
      have m1 := HM.out.at_ 1 _ rfl
      have m2 := HM.out.at_ 2 _ rfl
      have m3 := HM.out.at_ 3 _ rfl
      have m4 := HM.out.at_ 4 _ rfl
      have m5 := HM.out.at_ 5 _ rfl
      have m6 := HM.out.at_ 6 _ rfl
      have m7 := HM.out.at_ 7 _ rfl
      have z0 := HN.out.at_ 0 _ rfl
      have zf0 := HN.out.free 0
      have z1 := HN.out.at_ 1 _ rfl
      have zf1 := HN.out.free 1
      have z2 := HN.out.at_ 2 _ rfl
      have zf2 := HN.out.free 2
      have z3 := HN.out.at_ 3 _ rfl
      have zf3 := HN.out.free 3
      have z4 := HN.out.at_ 4 _ rfl
      have zf4 := HN.out.free 4
      have z5 := HN.out.at_ 5 _ rfl
      have zf5 := HN.out.free 5
      have z6 := HN.out.at_ 6 _ rfl
      have zf6 := HN.out.free 6
      have z7 := HN.out.at_ 7 _ rfl
      have zf7 := HN.out.free 7
      go_wp2_with fail
      refine bodyPost_ret (v := .tuple #[.agg #[.int .i64 (gAt L a).id, .string (gAt L a).nm, .int .i64 (gAt L a).ze, .slice A1 (gAt L a).l.length c1, .int .i64 (gAt L b).id, .string (gAt L b).nm, .int .i64 (gAt L b).ze, .slice A2 (gAt L b).l.length c2], .bool true]) (by simp [results, Try.results89, go_sem, z0, z1, z2, z3, z4, z5, z6, z7]) rfl ?_
      have HF : Hid (∀ W, Below w.heap.size w W → TwoPost L a b w (.returned (.tuple #[.agg #[.int .i64 (gAt L a).id, .string (gAt L a).nm, .int .i64 (gAt L a).ze, .slice A1 (gAt L a).l.length c1, .int .i64 (gAt L b).id, .string (gAt L b).nm, .int .i64 (gAt L b).ze, .slice A2 (gAt L b).l.length c2], .bool true])) W) := Lib.hid fun W hW => .inr ⟨HR.out, A1, c1, A2, c2, rfl, spots_at HSAB.out.1 hW, spots_at HSAB.out.2 hW, hW⟩
      refine HF.out _ ?_
      iterate 8 (refine Below.setCell ?_ (by simp) _)
      exact hRB.out
    · exact absurd hk (by omega)
end Go.Proofs.Ytdmnkmdlochogaa
