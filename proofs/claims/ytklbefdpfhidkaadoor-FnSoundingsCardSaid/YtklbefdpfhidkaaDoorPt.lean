/-
  The parts of a sounding's text: plain facts on Lib.cut, Lib.itoa and the texts of soundings. Conditions: stated at each theorem.
-/
import Derived.Test.YtklbefdpfhidkaaDoorNr
import Derived.Test.YtklbefdpfhidkaaDoorSt
import Derived.Lib.IndexMore
namespace Go.Proofs.YtklbefdpfhidkaaDoor
open Go.RowKit Go.Sort

theorem ba_eq {a b : ByteArray} (h : a.data.toList = b.data.toList) : a = b := ByteArray.ext (Array.toList_inj.1 h)
theorem ba_app (a b : ByteArray) : (a ++ b).data.toList = a.data.toList ++ b.data.toList := by
  obtain ⟨⟨l⟩⟩ := a
  obtain ⟨⟨m⟩⟩ := b
  rw [ByteArray.mk_append_mk]
theorem itoT_list (n : Int) : (itoT n).data.toList = Lib.itoa n := rfl
/-- A numeral is made of digits and '-'. -/
theorem itoa_mem (n : Int) : ∀ c ∈ Lib.itoa n, isDig c ∨ c = 45 := by
  intro c hc
  by_cases hn : n < 0
  · obtain ⟨u, rfl⟩ : ∃ u : Nat, n = -(u : Int) := ⟨n.natAbs, by omega⟩
    rw [Lib.itoa_neg u (by omega)] at hc
    rcases List.mem_cons.1 hc with hc | hc
    · exact .inr hc
    · exact .inl (decDigits_dig u c hc)
  · obtain ⟨u, rfl⟩ : ∃ u : Nat, n = (u : Int) := ⟨n.toNat, by omega⟩
    rw [Lib.itoa_nonneg] at hc
    exact .inl (decDigits_dig u c hc)
theorem itoT_no (n : Int) (b : UInt8) (h : b.toNat < 45 ∨ b.toNat = 58 ∨ b.toNat = 64) : b ∉ (itoT n).data.toList := by
  intro hm
  rw [itoT_list] at hm
  rcases itoa_mem n b hm with hd | rfl
  · unfold isDig at hd; omega
  · have : (45 : UInt8).toNat = 45 := rfl
    omega

/-! ### Before and behind a byte -/
def headB (b : UInt8) (s : ByteArray) : ByteArray := ⟨(s.data.toList.takeWhile (fun c => c != b)).toArray⟩
def tailB (b : UInt8) (s : ByteArray) : ByteArray := ⟨((s.data.toList.dropWhile (fun c => c != b)).drop 1).toArray⟩
theorem headB_size (b : UInt8) (s : ByteArray) : (headB b s).size ≤ s.size := by
  have h1 : (s.data.toList.takeWhile (fun c => c != b)).length ≤ s.data.toList.length := (List.takeWhile_sublist _).length_le
  have h2 : (headB b s).size = (s.data.toList.takeWhile (fun c => c != b)).length := List.size_toArray
  have h3 : s.data.toList.length = s.size := Array.length_toList
  omega
theorem tailB_size (b : UInt8) (s : ByteArray) : (tailB b s).size ≤ s.size := by
  have h1 : (s.data.toList.dropWhile (fun c => c != b)).length ≤ s.data.toList.length := (List.dropWhile_sublist _).length_le
  have h2 : (tailB b s).size = ((s.data.toList.dropWhile (fun c => c != b)).drop 1).length := List.size_toArray
  have h3 : s.data.toList.length = s.size := Array.length_toList
  rw [List.length_drop] at h2
  omega
theorem tw_app (b : UInt8) (r : List UInt8) : ∀ l : List UInt8, b ∉ l → (l ++ b :: r).takeWhile (fun c => c != b) = l ∧ (l ++ b :: r).dropWhile (fun c => c != b) = b :: r
  | [], _ => by simp
  | c :: l, h => by
    have h1 : c ≠ b := fun e => h (by simp [e])
    have hb : (c != b) = true := by simpa using h1
    obtain ⟨h2, h3⟩ := tw_app b r l (fun hm => h (List.mem_cons_of_mem _ hm))
    simp only [List.cons_append, List.takeWhile_cons, List.dropWhile_cons, hb, if_true]
    exact ⟨by rw [h2], h3⟩
theorem tw_none (b : UInt8) : ∀ l : List UInt8, b ∉ l → l.takeWhile (fun c => c != b) = l ∧ l.dropWhile (fun c => c != b) = []
  | [], _ => by simp
  | c :: l, h => by
    have h1 : c ≠ b := fun e => h (by simp [e])
    have hb : (c != b) = true := by simpa using h1
    obtain ⟨h2, h3⟩ := tw_none b l (fun hm => h (List.mem_cons_of_mem _ hm))
    simp only [List.takeWhile_cons, List.dropWhile_cons, hb, if_true]
    exact ⟨by rw [h2], h3⟩
theorem head_app (b : UInt8) (a m r : ByteArray) (hm : m.data.toList = [b]) (h : b ∉ a.data.toList) : headB b (a ++ (m ++ r)) = a ∧ tailB b (a ++ (m ++ r)) = r := by
  have e : (a ++ (m ++ r)).data.toList = a.data.toList ++ b :: r.data.toList := by rw [ba_app, ba_app, hm]; rfl
  obtain ⟨h1, h2⟩ := tw_app b r.data.toList a.data.toList h
  refine ⟨ba_eq ?_, ba_eq ?_⟩
  · unfold headB; rw [e, h1]
  · unfold tailB; rw [e, h2]; simp
/-- The place of the first byte b. -/
theorem head_extract (b : UInt8) (s : ByteArray) (o : Nat) (h : s.data.toList[o]? = some b) (hk : ∀ k, k < o → s.data.toList[k]? ≠ some b) : headB b s = s.extract 0 o ∧ tailB b s = s.extract (o + 1) s.size := by
  have hlt : o < s.data.toList.length := (List.getElem?_eq_some_iff.1 h).1
  have hs : s.data.toList = s.data.toList.take o ++ b :: s.data.toList.drop (o + 1) := by
    have h2 : s.data.toList[o] = b := (List.getElem?_eq_some_iff.1 h).2
    rw [← h2, ← List.drop_eq_getElem_cons hlt, List.take_append_drop]
  have hno : b ∉ s.data.toList.take o := by
    intro hm
    obtain ⟨k, hk1, hk2⟩ := List.mem_iff_getElem.1 hm
    rw [List.length_take] at hk1
    refine hk k (by omega) ?_
    rw [List.getElem?_eq_getElem (by omega), ← hk2, List.getElem_take]
  obtain ⟨h1, h2⟩ := tw_app b (s.data.toList.drop (o + 1)) (s.data.toList.take o) hno
  rw [← hs] at h1 h2
  refine ⟨ba_eq ?_, ba_eq ?_⟩
  · unfold headB; rw [h1, Lib.extract_data]; simp
  · unfold tailB; rw [h2, Lib.extract_to_end]; simp
theorem head_none (b : UInt8) (s : ByteArray) (h : b ∉ s.data.toList) : headB b s = s ∧ tailB b s = ⟨#[]⟩ := by
  obtain ⟨h1, h2⟩ := tw_none b s.data.toList h
  refine ⟨ba_eq ?_, ba_eq ?_⟩
  · unfold headB; rw [h1]
  · unfold tailB; rw [h2]; rfl

/-! ### strings.Cut -/
def cutB (s m : ByteArray) : ByteArray × ByteArray × Bool := (⟨(Lib.cut s.data.toList m.data.toList).1.toArray⟩, ⟨(Lib.cut s.data.toList m.data.toList).2.1.toArray⟩, (Lib.cut s.data.toList m.data.toList).2.2)
theorem occ_here (a m r : List UInt8) : Lib.occAt (a ++ (m ++ r)) m a.length = true := by
  unfold Lib.occAt
  rw [List.drop_left, List.isPrefixOf_iff_prefix]
  exact List.prefix_append m r
theorem occ_not (a m r : List UInt8) (c : UInt8) (t : List UInt8) (hm : m = c :: t) (h : c ∉ a) (j : Nat) (hj : j < a.length) : Lib.occAt (a ++ (m ++ r)) m j = false := by
  unfold Lib.occAt
  rw [Bool.eq_false_iff]
  intro hp
  rw [List.isPrefixOf_iff_prefix] at hp
  obtain ⟨q, hq⟩ := hp
  have h1 : ((a ++ (m ++ r)).drop j)[0]? = some c := by rw [← hq, hm]; rfl
  rw [List.getElem?_drop, Nat.add_zero, List.getElem?_append_left hj] at h1
  exact h (List.mem_of_getElem? h1)
theorem cut_app (a m r : ByteArray) (c : UInt8) (t : List UInt8) (hm : m.data.toList = c :: t) (h : c ∉ a.data.toList) : cutB (a ++ (m ++ r)) m = (a, r, true) := by
  have hs : (a ++ (m ++ r)).data.toList = a.data.toList ++ (m.data.toList ++ r.data.toList) := by rw [ba_app, ba_app]
  have hi : Lib.index (a.data.toList ++ (m.data.toList ++ r.data.toList)) m.data.toList = a.data.toList.length := by
    rcases Lib.index_spec (a.data.toList ++ (m.data.toList ++ r.data.toList)) m.data.toList with ⟨_, h2⟩ | ⟨i, h1, h2, h3, h4⟩
    · have := h2 a.data.toList.length (by simp)
      rw [occ_here] at this; cases this
    · rcases Nat.lt_trichotomy i a.data.toList.length with hlt | heq | hgt
      · rw [occ_not _ _ _ c t hm h i hlt] at h3; cases h3
      · rw [h1, heq]
      · have := h4 a.data.toList.length hgt
        rw [occ_here] at this; cases this
  have hc : Lib.cut (a ++ (m ++ r)).data.toList m.data.toList = (a.data.toList, r.data.toList, true) := by
    rw [hs]
    unfold Lib.cut
    rw [hi, if_pos (by omega), Int.toNat_natCast, List.take_left]
    rw [show a.data.toList.length + m.data.toList.length = (a.data.toList ++ m.data.toList).length by simp, ← List.append_assoc, List.drop_left]
  unfold cutB
  rw [hc]
theorem cut_back (s m p q : ByteArray) (f : Bool) (h : cutB s m = (p, q, f)) : (f = true → s = p ++ (m ++ q)) ∧ p.size ≤ s.size ∧ q.size ≤ s.size := by
  unfold cutB Lib.cut at h
  have hsz : s.data.toList.length = s.size := Array.length_toList
  by_cases h0 : 0 ≤ Lib.index s.data.toList m.data.toList
  · rw [if_pos h0] at h
    injection h with h1 h2
    injection h2 with h2 h3
    obtain ⟨i, hi⟩ : ∃ i : Nat, Lib.index s.data.toList m.data.toList = i := ⟨_, (Int.toNat_of_nonneg h0).symm⟩
    rw [hi, Int.toNat_natCast] at h1 h2
    have e1 : p.data.toList = s.data.toList.take i := by rw [← h1]
    have e2 : q.data.toList = s.data.toList.drop (i + m.data.toList.length) := by rw [← h2]
    have l1 : p.size ≤ s.size := by rw [← hsz, ← (show p.data.toList.length = p.size from Array.length_toList), e1, List.length_take]; omega
    have l2 : q.size ≤ s.size := by rw [← hsz, ← (show q.data.toList.length = q.size from Array.length_toList), e2, List.length_drop]; omega
    refine ⟨fun _ => ba_eq ?_, l1, l2⟩
    rcases Lib.index_spec s.data.toList m.data.toList with ⟨hx, _⟩ | ⟨j, h1', _, h3', _⟩
    · omega
    · obtain rfl : j = i := by omega
      unfold Lib.occAt at h3'
      rw [List.isPrefixOf_iff_prefix] at h3'
      obtain ⟨r, hr⟩ := h3'
      have hr2 : r = s.data.toList.drop (j + m.data.toList.length) := by
        rw [← List.drop_drop, ← hr, List.drop_left]
      rw [ba_app, ba_app, e1, e2, ← hr2, hr, List.take_append_drop]
  · rw [if_neg h0] at h
    injection h with h1 h2
    injection h2 with h2 h3
    refine ⟨fun hf => ?_, ?_, ?_⟩
    · rw [← h3] at hf; cases hf
    · rw [← h1]; exact Nat.le_refl _
    · rw [← h2]; exact Nat.zero_le _

/-! ### The text of a sounding -/
def mAt : ByteArray := ⟨#[64]⟩
def mCo : ByteArray := ⟨#[44]⟩
def mCl : ByteArray := ⟨#[58]⟩
def mPm : ByteArray := ⟨#[43, 45]⟩
def txt3 (v : SD) : ByteArray := itoT v.dep ++ (mPm ++ itoT v.dbt)
def txt2 (v : SD) : ByteArray := itoT v.y ++ (mCl ++ txt3 v)
def txt1 (v : SD) : ByteArray := itoT v.x ++ (mCo ++ txt2 v)
theorem txtS_peel (v : SD) : txtS v = itoT v.id ++ (mAt ++ txt1 v) := by
  apply ba_eq
  simp only [txtS, txt1, txt2, txt3, mAt, mCo, mCl, mPm, ba_app, List.append_assoc]
theorem txtS_cut (v : SD) : cutB (txtS v) mAt = (itoT v.id, txt1 v, true) ∧ cutB (txt1 v) mCo = (itoT v.x, txt2 v, true) ∧ cutB (txt2 v) mCl = (itoT v.y, txt3 v, true) ∧ cutB (txt3 v) mPm = (itoT v.dep, itoT v.dbt, true) := by
  refine ⟨?_, ?_, ?_, ?_⟩
  · rw [txtS_peel]; exact cut_app _ _ _ 64 [] rfl (itoT_no _ _ (by decide))
  · exact cut_app _ _ _ 44 [] rfl (itoT_no _ _ (by decide))
  · exact cut_app _ _ _ 58 [] rfl (itoT_no _ _ (by decide))
  · exact cut_app _ _ _ 43 [45] rfl (itoT_no _ _ (by decide))
theorem itoT_inj {n m : Int} (hn : -999999 ≤ n ∧ n ≤ 999999) (hm : -999999 ≤ m ∧ m ≤ 999999) (h : itoT n = itoT m) : n = m := by
  have h1 : Lib.itoa n = Lib.itoa m := by rw [← itoT_list, ← itoT_list, h]
  have a := atoi_itoa n hn.1 hn.2
  rw [h1, atoi_itoa m hm.1 hm.2] at a
  injection a with a
  exact a.symm
theorem num_itoT (n : Int) (h : -999999 ≤ n ∧ n ≤ 999999) : Num (itoT n) n := ⟨h.1, h.2, rfl⟩
theorem num_text {s : ByteArray} {n : Int} (h : Num s n) : s = itoT n := ba_eq (by rw [itoT_list]; exact h.2.2.symm)
def zeroS : SD := ⟨0, 0, 0, 0, 0⟩
/-- What ParseSounding tells of a text. -/
def Told (s : ByteArray) (v : SD) (r : Bool) : Prop := (r = true ∧ sdB v = true ∧ txtS v = s) ∨ (r = false ∧ v = zeroS ∧ ∀ u, sdB u = true → txtS u ≠ s)
theorem told_ex (s : ByteArray) : ∃ v r, Told s v r := by
  by_cases h : ∃ v, sdB v = true ∧ txtS v = s
  · obtain ⟨v, h1, h2⟩ := h; exact ⟨v, true, .inl ⟨rfl, h1, h2⟩⟩
  · exact ⟨zeroS, false, .inr ⟨rfl, rfl, fun u hu he => h ⟨u, hu, he⟩⟩⟩
theorem sd_nums {v : SD} (h : sdB v = true) : (-999999 ≤ v.id ∧ v.id ≤ 999999) ∧ (-999999 ≤ v.x ∧ v.x ≤ 999999) ∧ (-999999 ≤ v.y ∧ v.y ≤ 999999) ∧ (-999999 ≤ v.dep ∧ v.dep ≤ 999999) ∧ (-999999 ≤ v.dbt ∧ v.dbt ≤ 999999) := by
  obtain ⟨⟨i1, i2⟩, ⟨x1, x2⟩, ⟨y1, y2⟩, ⟨d1, d2⟩, ⟨b1, b2⟩⟩ := sdB_parts h
  exact ⟨⟨by omega, by omega⟩, ⟨by omega, by omega⟩, ⟨by omega, by omega⟩, ⟨by omega, by omega⟩, ⟨by omega, by omega⟩⟩
/-- What a reader of numerals hands back. -/
def RD (p : ByteArray) (n : Int) (r : Bool) : Prop := (r = true ∧ Num p n) ∨ (r = false ∧ n = 0 ∧ ∀ m, ¬ Num p m)
theorem rd_ex (p : ByteArray) : ∃ n r, RD p n r := by
  by_cases h : ∃ n, Num p n
  · obtain ⟨n, h⟩ := h; exact ⟨n, true, .inl ⟨rfl, h⟩⟩
  · exact ⟨0, false, .inr ⟨rfl, rfl, fun m hm => h ⟨m, hm⟩⟩⟩
theorem rd_itoT {n m : Int} {r : Bool} (hn : -999999 ≤ n ∧ n ≤ 999999) (h : RD (itoT n) m r) : r = true ∧ m = n := by
  rcases h with ⟨hr, hm⟩ | ⟨_, _, hno⟩
  · exact ⟨hr, hm.unique (num_itoT n hn)⟩
  · exact absurd (num_itoT n hn) (hno n)
theorem rd_bd {p : ByteArray} {n : Int} {r : Bool} (h : RD p n r) : -999999 ≤ n ∧ n ≤ 999999 := by
  rcases h with ⟨_, h⟩ | ⟨_, h, _⟩
  · exact ⟨h.1, h.2.1⟩
  · omega
/-- All is read: then the text is that of what is read. -/
theorem told_all {s p0 q0 p1 q1 p2 q2 p3 q3 : ByteArray} {v : SD} (c0 : cutB s mAt = (p0, q0, true)) (c1 : cutB q0 mCo = (p1, q1, true)) (c2 : cutB q1 mCl = (p2, q2, true)) (c3 : cutB q2 mPm = (p3, q3, true))
    (h0 : RD p0 v.id true) (h1 : RD p1 v.x true) (h2 : RD p2 v.y true) (h3 : RD p3 v.dep true) (h4 : RD q3 v.dbt true) : txtS v = s := by
  have key : ∀ {p : ByteArray} {n : Int}, RD p n true → p = itoT n := fun h => by
    rcases h with ⟨_, h⟩ | ⟨h, _⟩
    · exact num_text h
    · cases h
  rw [(cut_back _ _ _ _ _ c0).1 rfl, (cut_back _ _ _ _ _ c1).1 rfl, (cut_back _ _ _ _ _ c2).1 rfl, (cut_back _ _ _ _ _ c3).1 rfl, key h0, key h1, key h2, key h3, key h4]
  rw [txtS_peel]; rfl
/-- A valid text: then every part is found and read. -/
theorem told_parts {s p0 q0 p1 q1 p2 q2 p3 q3 : ByteArray} {f0 f1 f2 f3 r0 r1 r2 r3 r4 : Bool} {n0 n1 n2 n3 n4 : Int} {v : SD} (hv : sdB v = true) (hs : txtS v = s)
    (c0 : cutB s mAt = (p0, q0, f0)) (c1 : cutB q0 mCo = (p1, q1, f1)) (c2 : cutB q1 mCl = (p2, q2, f2)) (c3 : cutB q2 mPm = (p3, q3, f3))
    (h0 : RD p0 n0 r0) (h1 : RD p1 n1 r1) (h2 : RD p2 n2 r2) (h3 : RD p3 n3 r3) (h4 : RD q3 n4 r4) :
    (f0 = true ∧ f1 = true ∧ f2 = true ∧ f3 = true) ∧ (r0 = true ∧ r1 = true ∧ r2 = true ∧ r3 = true ∧ r4 = true) ∧ v = ⟨n0, n1, n2, n3, n4⟩ := by
  subst hs
  obtain ⟨t0, t1, t2, t3⟩ := txtS_cut v
  obtain ⟨b0, b1, b2, b3, b4⟩ := sd_nums hv
  rw [t0] at c0; injection c0 with e1 e2; injection e2 with e2 e3; subst e1 e2 e3
  rw [t1] at c1; injection c1 with e1 e2; injection e2 with e2 e3; subst e1 e2 e3
  rw [t2] at c2; injection c2 with e1 e2; injection e2 with e2 e3; subst e1 e2 e3
  rw [t3] at c3; injection c3 with e1 e2; injection e2 with e2 e3; subst e1 e2 e3
  obtain ⟨g0, k0⟩ := rd_itoT b0 h0
  obtain ⟨g1, k1⟩ := rd_itoT b1 h1
  obtain ⟨g2, k2⟩ := rd_itoT b2 h2
  obtain ⟨g3, k3⟩ := rd_itoT b3 h3
  obtain ⟨g4, k4⟩ := rd_itoT b4 h4
  refine ⟨⟨rfl, rfl, rfl, rfl⟩, ⟨g0, g1, g2, g3, g4⟩, ?_⟩
  rw [k0, k1, k2, k3, k4]
/-- The spec's parts of a valid text. -/
theorem told_heads {s : ByteArray} {r0 r1 r2 r3 r4 : Bool} {n0 n1 n2 n3 n4 : Int} {v : SD} (hv : sdB v = true) (hs : txtS v = s)
    (h0 : RD (headB 64 s) n0 r0) (h1 : RD (headB 44 (tailB 64 s)) n1 r1) (h2 : RD (headB 58 (tailB 44 (tailB 64 s))) n2 r2) (h3 : RD (headB 43 (tailB 58 (tailB 44 (tailB 64 s)))) n3 r3)
    (h4 : RD (tailB 45 (tailB 43 (tailB 58 (tailB 44 (tailB 64 s))))) n4 r4) : v = ⟨n0, n1, n2, n3, n4⟩ := by
  subst hs
  obtain ⟨b0, b1, b2, b3, b4⟩ := sd_nums hv
  obtain ⟨a0, a1⟩ := head_app 64 (itoT v.id) mAt (txt1 v) rfl (itoT_no _ _ (by decide))
  rw [← txtS_peel] at a0 a1
  rw [a0] at h0
  rw [a1] at h1 h2 h3 h4
  obtain ⟨a0, a1⟩ := head_app 44 (itoT v.x) mCo (txt2 v) rfl (itoT_no _ _ (by decide))
  rw [show txt1 v = itoT v.x ++ (mCo ++ txt2 v) from rfl] at h1 h2 h3 h4
  rw [a0] at h1
  rw [a1] at h2 h3 h4
  obtain ⟨a0, a1⟩ := head_app 58 (itoT v.y) mCl (txt3 v) rfl (itoT_no _ _ (by decide))
  rw [show txt2 v = itoT v.y ++ (mCl ++ txt3 v) from rfl] at h2 h3 h4
  rw [a0] at h2
  rw [a1] at h3 h4
  have e3 : txt3 v = itoT v.dep ++ (⟨#[43]⟩ ++ (⟨#[45]⟩ ++ itoT v.dbt)) := by
    apply ba_eq
    simp only [txt3, mPm, ba_app]
    rfl
  obtain ⟨a0, a1⟩ := head_app 43 (itoT v.dep) ⟨#[43]⟩ (⟨#[45]⟩ ++ itoT v.dbt) rfl (itoT_no _ _ (by decide))
  rw [e3] at h3 h4
  rw [a0] at h3
  rw [a1] at h4
  obtain ⟨_, a1⟩ := head_app 45 ⟨#[]⟩ ⟨#[45]⟩ (itoT v.dbt) rfl (by simp)
  rw [show (⟨#[]⟩ : ByteArray) ++ (⟨#[45]⟩ ++ itoT v.dbt) = ⟨#[45]⟩ ++ itoT v.dbt from ba_eq (by rw [ba_app]; rfl)] at a1
  rw [a1] at h4
  rw [(rd_itoT b0 h0).2, (rd_itoT b1 h1).2, (rd_itoT b2 h2).2, (rd_itoT b3 h3).2, (rd_itoT b4 h4).2]
end Go.Proofs.YtklbefdpfhidkaaDoor
