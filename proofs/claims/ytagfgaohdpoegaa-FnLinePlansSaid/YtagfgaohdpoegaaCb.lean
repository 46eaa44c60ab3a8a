/-
  How many lines cover each cell: contract of impl.countsOf over this translation. Conditions: stated at each theorem.
-/
import Derived.Test.YtagfgaohdpoegaaCa
import Derived.Test.YtagfgaohdpoegaaTc
import Derived.Laws.IdiomStrings
namespace Go.Proofs.Ytagfgaohdpoegaa
open Go.RowKit
set_option linter.unusedVariables false

theorem grown_trans9 {W W1 W2 : World} {row : Option Nat} (h : W.grownBy W1 row) (k : W1.grownBy W2 row) : W.grownBy W2 row :=
  ⟨k.os.trans h.os, k.tape.trans h.tape, k.output.trans h.output, Nat.le_trans h.size k.size, fun i hi hn => (k.block i (Nat.lt_of_lt_of_le hi h.size) hn).trans (h.block i hi hn)⟩
theorem grown_below9 {W W1 : World} (row : Option Nat) (h : Below W.heap.size W W1) : W.grownBy W1 row := ⟨h.os, h.tape, h.output, h.size, fun i hi _ => h.block i hi⟩
/-- Counts of row r: the columns before c are done, column c has seen i lines. -/
def cntF (L : List LN) (r c i x : Nat) : Int := if x < c then cvN L r x else if x = c then cvK L r c i else 0
def cntV (L : List LN) (r c i : Nat) : List Value := (List.range 20).map fun x => Value.int .i64 (cntF L r c i x)
theorem cntV_at (L : List LN) (r c i x : Nat) (hx : x < 20) : (cntV L r c i)[x]? = some (.int .i64 (cntF L r c i x)) := by simp [cntV, hx]
theorem cntV_len (L : List LN) (r c i : Nat) : (cntV L r c i).length = 20 := by simp [cntV]
theorem cntV_zero (L : List LN) (r : Nat) : cntV L r 0 0 = List.replicate 20 (.int .i64 0) := by
  apply List.ext_getElem?
  intro x
  by_cases hx : x < 20
  · rw [cntV_at _ _ _ _ _ hx, List.getElem?_replicate, if_pos hx]
    unfold cntF
    rw [if_neg (by omega)]
    by_cases h0 : x = 0
    · rw [if_pos h0]; rfl
    · rw [if_neg h0]
  · rw [List.getElem?_eq_none (by rw [cntV_len]; omega), List.getElem?_eq_none (by simp; omega)]
theorem cntV_next (L : List LN) (r c : Nat) : cntV L r c L.length = cntV L r (c + 1) 0 := by
  apply List.ext_getElem?
  intro x
  by_cases hx : x < 20
  · rw [cntV_at _ _ _ _ _ hx, cntV_at _ _ _ _ _ hx]
    unfold cntF
    by_cases h1 : x < c
    · rw [if_pos h1, if_pos (by omega)]
    · by_cases h2 : x = c
      · subst h2; rw [if_neg h1, if_pos rfl, if_pos (by omega)]; rfl
      · rw [if_neg h1, if_neg h2, if_neg (by omega)]
        by_cases h3 : x = c + 1
        · rw [if_pos h3]; rfl
        · rw [if_neg h3]
  · rw [List.getElem?_eq_none (by rw [cntV_len]; omega), List.getElem?_eq_none (by rw [cntV_len]; omega)]
theorem cntV_same {L : List LN} {r c i : Nat} (h : cvK L r c (i + 1) = cvK L r c i) : cntV L r c (i + 1) = cntV L r c i := by
  unfold cntV cntF; rw [h]
theorem cntV_set {L : List LN} {r c i : Nat} (hc : c < 20) {m : Nat} (h : cvK L r c (i + 1) = m) : (cntV L r c i).set c (.int .i64 m) = cntV L r c (i + 1) := by
  apply List.ext_getElem?
  intro x
  by_cases hx : x < 20
  · rw [List.getElem?_set, cntV_at _ _ _ _ _ hx, cntV_at _ _ _ _ _ hx, cntV_len]
    by_cases e : c = x
    · subst e
      rw [if_pos rfl, if_pos hx]
      unfold cntF
      rw [if_neg (by omega), if_pos rfl, h]
    · have e' : ¬ x = c := fun h => e h.symm
      rw [if_neg e]
      unfold cntF
      simp only [if_neg e']
  · rw [List.getElem?_eq_none (by rw [List.length_set, cntV_len]; omega), List.getElem?_eq_none (by rw [cntV_len]; omega)]
def rowsV (gs : List Nat) : List Value := gs.map fun g => Value.slice (some ⟨g, 0, none⟩) 20 20
theorem rowsV_snoc (gs : List Nat) (g : Nat) : rowsV gs ++ [Value.slice (some ⟨g, 0, none⟩) 20 20] = rowsV (gs ++ [g]) := by simp [rowsV]
theorem rowsV_at {gs : List Nat} {j g : Nat} (h : gs[j]? = some g) : (rowsV gs)[j]? = some (.slice (some ⟨g, 0, none⟩) 20 20) := by simp [rowsV, h]
def GridAt (L : List LN) (gs : List Nat) (w : World) : Prop := ∀ (j g : Nat), gs[j]? = some g → Has w g (cntV L j 20 0)
theorem GridAt.on {L : List LN} {gs : List Nat} {w w' : World} {row : Option Nat} (h : GridAt L gs w) (hg : w.grownBy w' row) (hr : ∀ (j g : Nat), gs[j]? = some g → some g ≠ row) : GridAt L gs w' := fun j g hj => has_grown (h j g hj) hg (hr j g hj)
theorem GridAt.next {L : List LN} {gs : List Nat} {w w' : World} (h : GridAt L gs w) (hb : Below w.heap.size w w') : GridAt L gs w' := fun j g hj => (h j g hj).next hb
theorem GridAt.snoc {L : List LN} {gs : List Nat} {w : World} {k g : Nat} (h : GridAt L gs w) (hk : gs.length = k) (hg : Has w g (cntV L k 20 0)) : GridAt L (gs ++ [g]) w := fun j g' hj => by
  rcases Nat.lt_or_ge j gs.length with h1 | h1
  · rw [List.getElem?_append_left h1] at hj
    exact h j g' hj
  · rw [List.getElem?_append_right h1] at hj
    obtain ⟨h2, rfl⟩ : j - gs.length = 0 ∧ g = g' := by
      rcases hq : j - gs.length with _ | q
      · rw [hq] at hj; exact ⟨rfl, Option.some.inj hj⟩
      · rw [hq] at hj; cases hj
    obtain rfl : j = k := by omega
    exact hg
theorem one_new9 (w : World) (x : Value) (T : TypeId) : ∀ (j : Nat) (u : Value), [x][j]? = some u → (w.alloc (.cells #[x] T)).cell? ((⟨w.heap.size, 0, none⟩ : Addr).add j) = some u := by
  intro j u hu
  rcases j with _ | j
  · simp [Addr.add, World.cell?_alloc_new] at hu ⊢; exact hu
  · simp at hu
theorem zero_row {W W1 : World} {B T : Nat} (h : W1.ownsRow B T 1 (.slice (some ⟨W.heap.size, 0, none⟩) 20 20) 20 (madeCells #[Value.int .i64 0] (20 * 1)).toList) (hg : W.grownBy W1 none) : Below W.heap.size W W1 ∧ Has W1 W.heap.size (List.replicate 20 (Value.int .i64 0)) := by
  refine ⟨⟨hg.os, hg.tape, hg.output, hg.size, fun k hk => hg.block k hk (by simp)⟩, (h.lt _ rfl).2, fun j u hu => ?_, fun j => ?_⟩
  · have e : (madeCells #[Value.int .i64 0] (20 * 1)).toList = List.replicate 20 (Value.int .i64 0) := toList_madeCells_one _ _
    rw [e] at h
    have hj : j < 20 := by have := (List.getElem?_eq_some_iff.1 hu).1; simpa using this
    have h1 := h.cellAt j (by omega)
    exact h1.trans hu
  · exact h.frozenAt j
/-- What is owned has a block apart from one that holds numbers. -/
theorem own_apart {W : World} {B n T : Nat} {v : Value} {gs : List Nat} {G : Nat} {xs : List Int} {gv cap : Nat} (h : W.ownsRow B T 1 v n (rowsV gs)) (hv : v = .slice (some ⟨gv, 0, none⟩) n cap) {j g : Nat} (hj : gs[j]? = some g) (hG : Has W G (xs.map (Value.int .i64))) (hx : j < xs.length) : gv ≠ G := by
  subst hv
  intro e
  subst e
  have h1 := h.cellAt j (by have := (List.getElem?_eq_some_iff.1 (rowsV_at hj)).1; have := h.1; omega)
  rw [rowsV_at hj] at h1
  have h2 := hG.at_ j (.int .i64 xs[j]) (by simp [hx])
  rw [h2] at h1
  cases h1
theorem grid_apart {W : World} {B n T : Nat} {v : Value} {gs : List Nat} {L : List LN} (h : W.ownsRow B T 1 v n (rowsV gs)) (hA : GridAt L gs W) {j g : Nat} (hj : gs[j]? = some g) (e : v.ownBlock = some g) : False := by
  have h2 := h.lt
  rcases h.2 with ⟨rfl, _⟩ | ⟨gv, cap, cur, rfl, _⟩
  · cases e
  · obtain rfl : gv = g := Option.some.inj e
    have hjn : j < n := by have := (List.getElem?_eq_some_iff.1 (rowsV_at hj)).1; have := h.1; omega
    obtain ⟨g0, h0⟩ : ∃ g0, gs[0]? = some g0 := ⟨gs[0]'(by have := (List.getElem?_eq_some_iff.1 hj).1; omega), List.getElem?_eq_getElem _⟩
    have h3 := h.cellAt 0 (by omega)
    rw [rowsV_at h0] at h3
    have h4 := (hA j gv hj).at_ 0 _ (cntV_at L j 20 0 0 (by omega))
    rw [h4] at h3
    cases h3
/-- The counts of all cells, handed back. -/
def CountsPost (L : List LN) (w : World) (e : Ending) (w' : World) : Prop :=
  ∃ (gv cap : Nat) (gs : List Nat), e = .returned (.slice (some ⟨gv, 0, none⟩) 20 cap) ∧ gs.length = 20 ∧ (∀ (j g : Nat), gs[j]? = some g → w'.cell? ⟨gv, j, none⟩ = some (.slice (some ⟨g, 0, none⟩) 20 20)) ∧ GridAt L gs w' ∧ Below w.heap.size w w'
theorem infoI : (Try.prog.info? 52).map (fun i => (i.zero, i.size, i.bytes)) = some (some (.slice none 0 0), 1, 24) := by kernel_rfl
set_option maxRecDepth 20000 in
set_option maxHeartbeats 3200000 in
theorem counts_impl (A : Option Addr) (n c0 : Nat) (L : List LN) (w : World) (hs : SdsN w w.heap.size A n L) (hg : Good9 L) :
    Calls Try.prog 62 #[.slice A n c0] w (CountsPost L w) := by
  obtain rfl := hs.1
  have h8 := hg.max
  obtain ⟨i0, hi, hz0, hz1, hz2⟩ := info_parts infoI
  have HI := Lib.hid (And.intro hi (And.intro hz0 (And.intro hz1 hz2)))
  clear hi hz0 hz1 hz2
  obtain ⟨j0, kj, kz0, kz1, kz2⟩ := info_parts info3
  have HJ := Lib.hid (And.intro kj (And.intro kz0 (And.intro kz1 kz2)))
  have hj8 : j0.bytes * 20 ≤ 281474976710656 := by rw [kz2]; decide
  clear kj kz0 kz1 kz2
  have HS := Lib.hid hs
  have HG := Lib.hid hg
  clear hs hg
  have HN0 : Hid (Col w 52 1 (.slice (some ⟨w.heap.size, 0, none⟩) 0 0) 0 (rowsV []) (w.alloc (.cells #[] 52))) := Lib.hid (col_start 52 1 (Below.refl _ _))
  go_enter Try.func62, Try.ntmps62
  go_wp2_with fail
  go_loopw [3, 9] (fun s i wr => ∃ (k : Nat) (v : Value) (gs : List Nat), k ≤ 20 ∧ i = .int .i64 k ∧ s = v ∧ gs.length = k ∧ Hid (Col w 52 1 v k (rowsV gs) wr) ∧ Hid (GridAt L gs wr)) (fun _ i _ => 20 - (intOf i).toNat)
  case atStart => exact ⟨0, _, [], Nat.zero_le _, rfl, rfl, rfl, HN0, Lib.hid (fun j g h => by cases h)⟩
  case round =>
    obtain ⟨k, v, gs, hk, rfl, rfl, hgs, hR, hA⟩ := hrel
    by_cases hlt : k < 20
    · go_wp2_with ((first | (at_make; refine wpList_make_full _ rfl _ _ 52 rfl wr.heap.size 3 j0 (.int .i64 0) 1 Try.underlying52 HJ.out.1 HJ.out.2.1 HJ.out.2.2.1 .i64 .i64 _ _ 20 rfl rfl rfl rfl hj8 (by unfold maxLen; decide) (Nat.le_refl _) ?_; intro w1 hown hgrow; have HW1 := Lib.hid (zero_row hown hgrow); have HR1 := Lib.hid (hR.out.next HW1.out.1); have HA1 := Lib.hid (hA.out.next HW1.out.1); clear hown hgrow) | (at_builtin; go_loud (refine wpList_append_own _ rfl _ _ 78 rfl w.heap.size 52 i0 (.slice none 0 0) 1 24 Try.underlying78 HI.out.1 HI.out.2.1 HI.out.2.2.1 HI.out.2.2.2 rfl (by decide) _ _ _ rfl (HR1.out.1.alloc _) ⟨w1.heap.size, 0, none⟩ 1 1 [.slice (some ⟨wr.heap.size, 0, none⟩) 20 20] rfl rfl (one_new9 _ _ _) (by simp [Value.oneCell']) (by unfold maxLen; omega) (by omega) (by have := HR1.out.2.size; simp; omega) ?_; intro v2 w5 hown' hgrow _; have HN := Lib.hid (HR1.out.step hown' hgrow); have HGR := Lib.hid hgrow; clear hown' hgrow))))
      have hv2 := HN.out.1
      rw [rowsV_snoc] at hv2
      obtain ⟨gv, cap, rfl⟩ : ∃ gv cap, v2 = .slice (some ⟨gv, 0, none⟩) (k + 1) cap := by
        rcases hv2.2 with ⟨_, e⟩ | ⟨g, cap, cur, e, _⟩
        · omega
        · exact ⟨g, cap, e⟩
      have HBk := Lib.hid HN.out.2
      have HO := Lib.hid hv2
      have HGk : Hid (w.heap.size ≤ wr.heap.size ∧ wr.heap.size < w5.heap.size ∧ Has w5 wr.heap.size (cntV L k 0 0) ∧ GridAt L gs w5 ∧ ∀ (j g : Nat), gs[j]? = some g → g < wr.heap.size) := by
        have hlt2 : ∀ b, u3.ownBlock = some b → b < wr.heap.size := fun b hb => (hR.out.1.lt b hb).2
        have h1 : Has w5 wr.heap.size (cntV L k 0 0) := by
          rw [cntV_zero]
          exact has_grown (HW1.out.2.alloc _) HGR.out (fun e => by have := hlt2 _ e.symm; omega)
        exact Lib.hid ⟨hR.out.2.size, h1.1, h1, fun j g hj => has_grown ((HA1.out j g hj).alloc _) HGR.out (fun e => grid_apart hR.out.1 hA.out hj e.symm), fun j g hj => (hA.out j g hj).1⟩
      have HAP : Hid (gv ≠ wr.heap.size) := by
        have := HGk.out.2.2.1
        refine Lib.hid (own_apart (xs := (List.range 20).map (cntF L k 0 0)) HO.out rfl (j := k) (g := wr.heap.size) ?_ ?_ (by simp; omega))
        · rw [List.getElem?_append_right (by omega), hgs, Nat.sub_self]; rfl
        · have e : cntV L k 0 0 = ((List.range 20).map (cntF L k 0 0)).map (Value.int .i64) := by simp [cntV]
          rw [← e]; exact this
      have HCE : Hid (w5.cell? ⟨gv, k, none⟩ = some (.slice (some ⟨wr.heap.size, 0, none⟩) 20 20)) := by
        refine Lib.hid ((HO.out.cellAt k (by omega)).trans (rowsV_at ?_))
        rw [List.getElem?_append_right (by omega), hgs, Nat.sub_self]; rfl
      obtain ⟨G, hGe⟩ : ∃ G, G = wr.heap.size := ⟨_, rfl⟩
      rw [← hGe] at HGk HAP HCE HO
      rw [← hGe]
      clear hv2 HN HGR HR1 HA1 HW1 hGe
      go_loopw [16] (fun i wr2 => ∃ c : Nat, c ≤ 20 ∧ i = .int .i64 c ∧ Hid (w5.grownBy wr2 (some G)) ∧ Hid (Has wr2 G (cntV L k c 0))) (fun i _ => 20 - (intOf i).toNat)
      case atStart => exact ⟨0, Nat.zero_le _, rfl, Lib.hid (World.grownBy.refl _ _), Lib.hid HGk.out.2.2.1⟩
      case round =>
        obtain ⟨c, hc, rfl, hGR, hH⟩ := hrel
        by_cases hlc : c < 20
        · go_wp2_with fail
          go_loopw [21] (fun i wr3 => ∃ q : Nat, q ≤ L.length ∧ i = .int .i64 q ∧ Hid (w5.grownBy wr3 (some G)) ∧ Hid (Has wr3 G (cntV L k c q))) (fun i _ => L.length - (intOf i).toNat)
          case atStart => exact ⟨0, Nat.zero_le _, rfl, hGR, hH⟩
          case round =>
            obtain ⟨q, hq, rfl, hGR2, hH2⟩ := hrel
            obtain ⟨wq, hwq⟩ : ∃ wq : World, wq = wr := ⟨_, rfl⟩
            rw [← hwq] at hGR2 hH2 ⊢
            clear hwq
            have HB3 : Hid (Below w.heap.size w wq) := Lib.hid (HBk.out.grown hGR2.out HBk.out.size (fun b e => by obtain rfl := Option.some.inj e; exact HGk.out.1))
            by_cases hlq : q < L.length
            · obtain ⟨b, o, u, rfl, hbl, hL, c0, c1, c2, c3, c4⟩ := (sds_atN HS.out HB3.out).2 q hlq
              have HU := Lib.hid (HG.out.mem (List.mem_of_getElem? hL))
              have HM : Hid (Mid9 u.fr ∧ Mid9 (u.y - u.sw) ∧ Mid9 u.to ∧ Mid9 (u.y + u.sw)) := by
                obtain ⟨q1, q2, q3, q4, q5, q6⟩ := lnB_parts HU.out
                unfold Hid Mid9
                omega
              rcases hv : cvB u k c with _ | _
              · have HV : Hid (whB u.fr (u.y - u.sw) u.to (u.y + u.sw) k c = false) := Lib.hid ((cv_wh u k c).symm.trans hv)
                have HNX : Hid (cntV L k c (q + 1) = cntV L k c q) := Lib.hid (cntV_same (cvK_miss hL hv))
                clear hv hL
                go_wp2_with fail
                refine (strip_impl u HU.out _).mono ?_
                rintro e w6 ⟨rfl, hb⟩
                have HX := Lib.hid (box1 hb)
                clear hb c0 c1 c2 c3 c4
                go_wp2_with fail
                refine (cellIn_impl k c u.fr (u.y - u.sw) u.to (u.y + u.sw) _ HV.out hlt hlc HM.out.1 HM.out.2.1 HM.out.2.2.1 HM.out.2.2.2 _).mono ?_
                rintro e w7 ⟨rfl, hb⟩
                have HX2 := Lib.hid (bthen HX.out.1 hb HX.out.1.size)
                clear hb
                have HG7 := Lib.hid (grown_trans9 hGR2.out (grown_below9 (some G) HX2.out))
                have HH7 : Hid (Has w7 G (cntV L k c (q + 1))) := by unfold Hid; rw [HNX.out]; exact hH2.out.next HX2.out
                go_wp2_with fail
                go_roundw
                case rel => (repeat apply Exists.intro); rw [show decide ((c : Int) < 20) = true from decide_eq_true (by omega)]; exact ⟨⟨q + 1, by omega, by go_num, HG7, HH7⟩, rfl⟩
                case measure => simp [intOf]; omega
              · have HV : Hid (whB u.fr (u.y - u.sw) u.to (u.y + u.sw) k c = true) := Lib.hid ((cv_wh u k c).symm.trans hv)
                obtain ⟨m, hm⟩ : ∃ m, m = cvK L k c q := ⟨_, rfl⟩
                have hm8 : m ≤ q := hm ▸ cvK_le L k c q
                have HNX : Hid ((cntV L k c q).set c (.int .i64 ((m + 1 : Nat) : Int)) = cntV L k c (q + 1)) := Lib.hid (cntV_set hlc (by rw [cvK_hit hL hv, hm]))
                have HME := Lib.hid hm
                clear hv hL hm
                go_wp2_with fail
                refine (strip_impl u HU.out _).mono ?_
                rintro e w6 ⟨rfl, hb⟩
                have HX := Lib.hid (box1 hb)
                clear hb c0 c1 c2 c3 c4
                go_wp2_with fail
                refine (cellIn_impl k c u.fr (u.y - u.sw) u.to (u.y + u.sw) _ HV.out hlt hlc HM.out.1 HM.out.2.1 HM.out.2.2.1 HM.out.2.2.2 _).mono ?_
                rintro e w7 ⟨rfl, hb⟩
                have HX2 := Lib.hid (bthen HX.out.1 hb HX.out.1.size)
                clear hb
                have HG7 := Lib.hid (grown_trans9 hGR2.out (grown_below9 (some G) HX2.out))
                have HH7 := Lib.hid (hH2.out.next HX2.out)
                have o0 := HG7.out.cell HCE.out (fun e => HAP.out (Option.some.inj e))
                have g0 : w7.cell? ⟨G, c, none⟩ = some (.int .i64 m) := by
                  rw [HME.out]
                  have h := HH7.out.at_ c _ (cntV_at L k c q c hlc)
                  unfold cntF at h
                  rwa [if_neg (by omega), if_pos rfl] at h
                have f0 := HH7.out.free c
                have HG8 := Lib.hid (grown_trans9 HG7.out (grown_set w7 ⟨G, c, none⟩ (.int .i64 ((m : Int) + 1))))
                have HH8 : Hid (Has (w7.setCell ⟨G, c, none⟩ (.int .i64 ((m : Int) + 1))) G (cntV L k c (q + 1))) := by
                  unfold Hid
                  rw [← HNX.out]
                  exact HH7.out.set c _
                go_wp2_with fail
                go_roundw
                case rel => (repeat apply Exists.intro); rw [show decide ((c : Int) < 20) = true from decide_eq_true (by omega)]; exact ⟨⟨q + 1, by omega, by go_num, HG8, HH8⟩, rfl⟩
                case measure => simp [intOf]; omega
            · obtain rfl : q = L.length := by omega
              have HH8 : Hid (Has wq G (cntV L k (c + 1) 0)) := by unfold Hid; rw [← cntV_next]; exact hH2.out
              go_wp2_with fail
              go_roundw
              case rel => exact ⟨c + 1, by omega, by go_num, hGR2, HH8⟩
              case measure => simp [intOf]; omega
        · obtain rfl : c = 20 := by omega
          have HC2 := Lib.hid (show Col w 52 1 (.slice (some ⟨gv, 0, none⟩) (k + 1) cap) (k + 1) (rowsV (gs ++ [G])) wr from ⟨HO.out.kept hGR.out (.inr (fun e => HAP.out (Option.some.inj e))), HBk.out.grown hGR.out HBk.out.size (fun b e => by obtain rfl := Option.some.inj e; exact HGk.out.1)⟩)
          have HA2 := Lib.hid (GridAt.snoc (HGk.out.2.2.2.1.on hGR.out (fun j g hj e => by have := HGk.out.2.2.2.2 j g hj; have := Option.some.inj e; omega)) hgs hH.out)
          have hgs2 : (gs ++ [G]).length = k + 1 := by simp [hgs]
          go_wp2_with fail
          go_roundw
          case rel => exact ⟨k + 1, _, gs ++ [G], by omega, by go_num, rfl, hgs2, HC2, HA2⟩
          case measure => simp [intOf]; omega
    · obtain rfl : k = 20 := by omega
      obtain ⟨gv, cap, rfl⟩ : ∃ gv cap, u3 = .slice (some ⟨gv, 0, none⟩) 20 cap := by
        rcases hR.out.1.2 with ⟨_, e⟩ | ⟨g, cap, cur, e, _⟩
        · omega
        · exact ⟨g, cap, e⟩
      have HP : Hid (CountsPost L w (.returned (.slice (some ⟨gv, 0, none⟩) 20 cap)) wr) := Lib.hid ⟨gv, cap, gs, rfl, hgs, fun j g hj => (hR.out.1.cellAt j (by have := (List.getElem?_eq_some_iff.1 hj).1; omega)).trans (rowsV_at hj), hA.out, hR.out.2⟩
      go_wp2_with fail
      go_ret
      exact HP.out
end Go.Proofs.Ytagfgaohdpoegaa
