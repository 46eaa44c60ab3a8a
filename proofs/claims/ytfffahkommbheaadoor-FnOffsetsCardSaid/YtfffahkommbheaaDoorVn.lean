/-
  Numbers as text, craft as text: contracts of spec.l1Num, spec.l5Signed, impl.CraftText, spec.CraftText over this translation. Conditions: stated at each theorem.
-/
import Derived.Test.YtfffahkommbheaaDoorShelf
import Derived.Test.YtfffahkommbheaaDoorVv
import Derived.Lib.ItoaMem
namespace Go.Proofs.YtfffahkommbheaaDoor
open Go.RowKit Go.Sort

theorem below_grow (w : World) (os : Array Obj) : Below w.heap.size w (grow w os) :=
  ⟨rfl, rfl, rfl, by simp, fun _ hk => heap_grow_old w os hk⟩
theorem below_drewN (w : World) (k : Nat) : Below w.heap.size w (w.drewN k) := ⟨rfl, rfl, rfl, Nat.le_refl _, fun _ _ => rfl⟩
theorem below_itoa {w w' : World} (h : ∃ k os, w' = grow (w.drewN k) os) : Below w.heap.size w w' := by
  obtain ⟨k, os, rfl⟩ := h
  exact (below_drewN w k).trans (below_grow (w.drewN k) os)

def digits10 : ByteArray := ⟨#[48, 49, 50, 51, 52, 53, 54, 55, 56, 57]⟩
theorem digits10_at : ∀ i : Fin 10, digits10.extract i.val (i.val + 1) = ⟨#[UInt8.ofNat (48 + i.val)]⟩ := by decide +kernel
/-- The text of one digit. -/
def dgt (d : Nat) : ByteArray := ⟨#[UInt8.ofNat (48 + d)]⟩
theorem digit_run (d : Nat) (hd : d < 10) (a b : Int) (ha : a = d) (hb : b = (d : Int) + 1) (w : World) :
    (Instr.slice 9 (.string ⟨#[48, 49, 50, 51, 52, 53, 54, 55, 56, 57]⟩) (some (.int .i64 a)) (some (.int .i64 b)) none).run Tryd.prog w = .ok (.string (dgt d)) w := by
  subst ha hb
  have hs : digits10.size = 10 := by decide +kernel
  show (Instr.slice 9 (.string digits10) (some (.int .i64 (d : Int))) (some (.int .i64 ((d : Int) + 1))) none).run Tryd.prog w = _
  rw [run_slice_string w 9 digits10 .i64 .i64 _ _ Tryd.underlying9 (by omega) (by omega) (by rw [hs]; omega), show ((d : Int)).toNat = d by omega, show ((d : Int) + 1).toNat = d + 1 by omega, digits10_at ⟨d, hd⟩]
  rfl

theorem dlen_le (u : Nat) : (Lib.decDigits u).length ≤ u + 1 := by
  induction u using Nat.strongRecOn with
  | _ u ih =>
    rw [Lib.decDigits]
    split
    · simp
    · rename_i h
      have := ih (u / 10) (by omega)
      simp only [List.length_append, List.length_cons, List.length_nil]
      omega
theorem digits_add (u : Nat) (h : ¬ u < 10) (hb : u ≤ 1000000000) (w : World) :
    (Op.stringOp .add ⟨(Lib.decDigits (u / 10)).toArray⟩ (dgt (u % 10))).run Tryd.prog w = .ok (.string ⟨(Lib.decDigits u).toArray⟩) w := by
  have hl := dlen_le (u / 10)
  rw [run_string_add_sum w _ _ (by simp [ByteArray.size, dgt]; omega)]
  have e : Lib.decDigits u = Lib.decDigits (u / 10) ++ [UInt8.ofNat (48 + u % 10)] := by
    rw [Lib.decDigits, dif_neg h]
  rw [e]
  show Result.ok (Value.string (ByteArray.mk (Lib.decDigits (u / 10)).toArray ++ ByteArray.mk [UInt8.ofNat (48 + u % 10)].toArray)) w = _
  rw [ByteArray.mk_append_mk]

set_option maxHeartbeats 400000 in
theorem num_small (u : Nat) (w : World) (hu : u < 10) :
    Calls Tryd.prog 34 #[.int .i64 u] w fun e w' => e = .returned (.string ⟨(Lib.decDigits u).toArray⟩) ∧ w = w' := by
  have hd := digit_run u hu u ((u : Int) + 1) rfl rfl
  go_enter Tryd.func34, Tryd.ntmps34
  go_wp2
  go_ret
  exact ⟨by rw [Lib.decDigits_one hu]; rfl, rfl⟩
set_option maxHeartbeats 400000 in
theorem num_nat (k : Nat) : ∀ (u : Nat) (w : World), u ≤ k → u ≤ 1000000000 →
    Calls Tryd.prog 34 #[.int .i64 u] w fun e w' => e = .returned (.string ⟨(Lib.decDigits u).toArray⟩) ∧ ∃ n, w' = w.drewN n := by
  induction k with
  | zero =>
    intro u w hk _
    exact (num_small u w (by omega)).mono fun e w' ⟨h1, h2⟩ => ⟨h1, 0, by rw [World.drewN_zero, h2]⟩
  | succ k ih =>
    intro u w hk hb
    by_cases hu : u < 10
    · exact (num_small u w hu).mono fun e w' ⟨h1, h2⟩ => ⟨h1, 0, by rw [World.drewN_zero, h2]⟩
    · have IH := Lib.hid ih
      clear ih
      have hd := digit_run (u % 10) (by omega) ((u : Int) % 10) ((u : Int) % 10 + 1) (by omega) (by omega)
      have h1 : (u : Int).tmod 10 = (u : Int) % 10 := Int.tmod_eq_emod_of_nonneg (by omega)
      have h2 : IntKind.i64.wrap ((u : Int) % 10) = (u : Int) % 10 := IntWalk.i64_in _ (by omega)
      have h3 : IntKind.i64.wrap ((u : Int) % 10 + 1) = (u : Int) % 10 + 1 := IntWalk.i64_in _ (by omega)
      have h5 : IntKind.i64.wrap ((u : Int) / 10) = (u : Int) / 10 := IntWalk.i64_in _ (by omega)
      have h4 : (u : Int) / 10 = ((u / 10 : Nat) : Int) := by omega
      have hc : ∀ W : World, Calls Tryd.prog 34 #[.int .i64 ((u : Int) / 10)] W fun e w' => e = .returned (.string ⟨(Lib.decDigits (u / 10)).toArray⟩) ∧ ∃ n, w' = W.drewN n := fun W => by
        rw [h4]; exact IH.out (u / 10) W (by omega) (by omega)
      have HC := Lib.hid hc
      have ha := digits_add u hu hb
      clear h4 hc IH
      go_enter Tryd.func34, Tryd.ntmps34
      go_wp2_with fail
      go_quiet ((go_at_call 34; exact Calls.quiet_of (HC.out _)))
      go_wp2
      go_ret
      exact ⟨rfl, _, rfl⟩
/-- The numeral of a number, as spec.l1Num writes it. -/
theorem num_any (n : Int) (w : World) (h0 : -1000000000 ≤ n) (h1 : n ≤ 1000000000) :
    Calls Tryd.prog 34 #[.int .i64 n] w fun e w' => e = .returned (.string ⟨(Lib.itoa n).toArray⟩) ∧ ∃ k, w' = w.drewN k := by
  by_cases hn : n < 0
  · obtain ⟨u, rfl⟩ : ∃ u : Nat, n = -(u : Int) := ⟨n.natAbs, by omega⟩
    have hc : ∀ W : World, Calls Tryd.prog 34 #[.int .i64 (u : Int)] W fun e w' => e = .returned (.string ⟨(Lib.decDigits u).toArray⟩) ∧ ∃ n, w' = W.drewN n := fun W => num_nat u u W (Nat.le_refl _) (by omega)
    have HC := Lib.hid hc
    clear hc
    have hl := dlen_le u
    have ha : ∀ w, (Op.stringOp .add ⟨#[45]⟩ ⟨(Lib.decDigits u).toArray⟩).run Tryd.prog w = .ok (.string ⟨(Lib.itoa (-(u : Int))).toArray⟩) w := fun w => by
      rw [run_string_add_sum w _ _ (by simp [ByteArray.size]; omega), Lib.itoa_neg u (by omega)]
      show Result.ok (Value.string (ByteArray.mk [45].toArray ++ ByteArray.mk (Lib.decDigits u).toArray)) w = _
      rw [ByteArray.mk_append_mk]
      rfl
    clear hl
    have hw : IntKind.i64.wrap (- -(u : Int)) = (u : Int) := by rw [Int.neg_neg]; exact IntWalk.i64_in _ (by omega)
    go_enter Tryd.func34, Tryd.ntmps34
    go_wp2_with (go_at_call 34; refine (HC.out _).mono ?_; rintro e w' ⟨rfl, k, rfl⟩)
    go_ret
    exact ⟨rfl, _, rfl⟩
  · obtain ⟨u, rfl⟩ : ∃ u : Nat, n = (u : Int) := ⟨n.toNat, by omega⟩
    rw [Lib.itoa_nonneg]
    exact num_nat u u w (Nat.le_refl _) (by omega)


theorem tabIs_below {w w' : World} {name : String} {k : IntKind} {zs : List Int} (h : Lib.TabIs Tryd.prog w name k zs) (hb : Below w.heap.size w w') : Lib.TabIs Tryd.prog w' name k zs := by
  unfold Lib.TabIs World.var? at *
  cases hg : Tryd.prog.globalNamed name with
  | none => simp [hg] at h
  | some g =>
    simp only [hg, Option.bind_some] at h ⊢
    have hlt : g < w.heap.size := by
      rcases Nat.lt_or_ge g w.heap.size with h' | h'
      · exact h'
      · rw [Array.getElem?_eq_none h'] at h; simp at h
    rw [hb.block g hlt]
    exact h
/-- The table of powers of ten, as the row lists it. -/
abbrev Pow10 (w : World) : Prop := Lib.TabIs Tryd.prog w "internal/strconv.uint64pow10" .u64 Lib.pow10Tab


def itoT (n : Int) : ByteArray := ⟨(Lib.itoa n).toArray⟩
theorem itoT_len (n : Int) (h0 : -20000 ≤ n) (h1 : n ≤ 20000) : (itoT n).size ≤ 20002 := by
  have hs : (itoT n).size = (Lib.itoa n).length := by simp [itoT, ByteArray.size]
  rw [hs]
  by_cases hn : n < 0
  · obtain ⟨u, rfl⟩ : ∃ u : Nat, n = -(u : Int) := ⟨n.natAbs, by omega⟩
    rw [Lib.itoa_neg u (by omega)]
    have := dlen_le u
    simp only [List.length_cons]
    omega
  · obtain ⟨u, rfl⟩ : ∃ u : Nat, n = (u : Int) := ⟨n.toNat, by omega⟩
    rw [Lib.itoa_nonneg]
    have := dlen_le u
    omega
theorem num_v (n : Int) (s : ByteArray) (hs : itoT n = s) (w : World) (h0 : -1000000000 ≤ n) (h1 : n ≤ 1000000000) :
    Calls Tryd.prog 34 #[.int .i64 n] w fun e w' => e = .returned (.string s) ∧ Below w.heap.size w w' := by
  subst hs
  exact (num_any n w h0 h1).mono fun e w' ⟨h, k, hk⟩ => ⟨h, by rw [hk]; exact below_drewN w k⟩
theorem itoa_v (n : Int) (s : ByteArray) (hs : itoT n = s) (w : World) (ht : Pow10 w) (h0 : -1000000000 ≤ n) (h1 : n ≤ 1000000000) :
    Calls Tryd.prog 33 #[.int .i64 n] w fun e w' => e = .returned (.string s) ∧ Below w.heap.size w w' := by
  subst hs
  exact (Tryd.strconv_Itoa n (by omega) (by omega) w ht).mono fun e w' ⟨h, hb⟩ => ⟨h, below_itoa hb⟩
theorem num_w (n : Int) (w : World) (h0 : -1000000000 ≤ n) (h1 : n ≤ 1000000000) :
    Calls Tryd.prog 34 #[.int .i64 n] w fun e w' => e = .returned (.string (itoT n)) ∧ Below w.heap.size w w' := num_v n _ rfl w h0 h1
theorem itoa_w (n : Int) (w : World) (ht : Pow10 w) (h0 : -1000000000 ≤ n) (h1 : n ≤ 1000000000) :
    Calls Tryd.prog 33 #[.int .i64 n] w fun e w' => e = .returned (.string (itoT n)) ∧ Below w.heap.size w w' := itoa_v n _ rfl w ht h0 h1
theorem cat_any (a b : ByteArray) (h : a.size + b.size ≤ 1000000) : ∃ s, (∀ w, (Op.stringOp .add a b).run Tryd.prog w = .ok (.string s) w) ∧ s = a ++ b ∧ s.size = a.size + b.size :=
  ⟨a ++ b, fun w => run_string_add_sum w a b (by omega), rfl, ByteArray.size_append⟩
theorem signed_v (n : Int) (s : ByteArray) (hs : itoT n = s) (w : World) (h0 : -20000 ≤ n) (h1 : n ≤ 20000) :
    Calls Tryd.prog 35 #[.int .i64 n] w fun e w' => e = .returned (.string s) ∧ Below w.heap.size w w' := by
  by_cases hn : n < 0
  · obtain ⟨t, ht⟩ : ∃ t, itoT (-n) = t := ⟨_, rfl⟩
    have hl := itoT_len (-n) (by omega) (by omega)
    rw [ht] at hl
    obtain ⟨q, hq, he, _⟩ := cat_any ⟨#[45]⟩ t (by have : (⟨#[45]⟩ : ByteArray).size = 1 := rfl; omega)
    have HE : Hid (q = s) := by
      unfold Hid
      rw [he, ← ht, ← hs]
      obtain ⟨u, rfl⟩ : ∃ u : Nat, n = -(u : Int) := ⟨n.natAbs, by omega⟩
      unfold itoT
      rw [Int.neg_neg, Lib.itoa_nonneg, Lib.itoa_neg u (by omega)]
      show ByteArray.mk [45].toArray ++ ByteArray.mk (Lib.decDigits u).toArray = _
      rw [ByteArray.mk_append_mk]
      rfl
    have HT := Lib.hid ht
    clear hs he ht
    go_enter Tryd.func35, Tryd.ntmps35
    go_wp2_with fail
    refine (num_v (-n) t HT.out _ (by omega) (by omega)).mono ?_
    rintro e w1 ⟨rfl, hb⟩
    have HB := Lib.hid hb
    clear hb
    go_wp2_with fail
    go_ret
    exact ⟨by rw [← HE.out]; rfl, HB.out⟩
  · have HS := Lib.hid hs
    clear hs
    go_enter Tryd.func35, Tryd.ntmps35
    go_wp2_with fail
    refine (num_v n s HS.out _ (by omega) (by omega)).mono ?_
    rintro e w1 ⟨rfl, hb⟩
    have HB := Lib.hid hb
    clear hb
    go_wp2_with fail
    go_ret
    exact ⟨rfl, HB.out⟩
theorem signed_w (n : Int) (w : World) (h0 : -20000 ≤ n) (h1 : n ≤ 20000) :
    Calls Tryd.prog 35 #[.int .i64 n] w fun e w' => e = .returned (.string (itoT n)) ∧ Below w.heap.size w w' := signed_v n _ rfl w h0 h1
/-- A craft as text. -/
def txtC (v : CC) : ByteArray := (((((((v.nm ++ ⟨#[32, 40]⟩) ++ itoT v.id) ++ ⟨#[41, 44, 32, 100, 114, 97, 117, 103, 104, 116, 32]⟩) ++ itoT v.dr) ++ ⟨#[32, 99, 109, 44, 32, 115, 111, 117, 110, 100, 101, 114, 32]⟩) ++ itoT v.ah) ++ ⟨#[47]⟩) ++ itoT v.be
def ctT (v : CC) : ByteArray := if craftB v then txtC v else ⟨#[]⟩
def CtPost (v : CC) (w : World) (e : Ending) (w' : World) : Prop := e = .returned (.tuple #[.string (ctT v), .bool (craftB v)]) ∧ Below w.heap.size w w'
theorem ct_no {v : CC} {w w' : World} (h : craftB v = false) (hb : Below w.heap.size w w') : CtPost v w (.returned (.tuple #[.string ⟨#[]⟩, .bool false])) w' := ⟨by unfold ctT; rw [h]; rfl, hb⟩
theorem ct_yes {v : CC} {s : ByteArray} {w w' : World} (h : craftB v = true) (hs : s = txtC v) (hb : Below w.heap.size w w') : CtPost v w (.returned (.tuple #[.string s, .bool true])) w' := ⟨by unfold ctT; rw [h, if_pos rfl, hs], hb⟩
theorem word_size {s : ByteArray} (h : wordB s = true) : s.size ≤ 10 := by
  unfold wordB at h
  rw [Bool.and_eq_true] at h
  have := inB_yes h.1
  omega
/-- The pieces of the text, each by its own name. -/
theorem txt_parts (v : CC) (h : craftB v = true) : ∃ s1 s2 s3 s4 s5 s6 s7 s8 : ByteArray,
    (∀ w, (Op.stringOp .add v.nm ⟨#[32, 40]⟩).run Tryd.prog w = .ok (.string s1) w) ∧ (∀ w, (Op.stringOp .add s1 (itoT v.id)).run Tryd.prog w = .ok (.string s2) w) ∧
    (∀ w, (Op.stringOp .add s2 ⟨#[41, 44, 32, 100, 114, 97, 117, 103, 104, 116, 32]⟩).run Tryd.prog w = .ok (.string s3) w) ∧ (∀ w, (Op.stringOp .add s3 (itoT v.dr)).run Tryd.prog w = .ok (.string s4) w) ∧
    (∀ w, (Op.stringOp .add s4 ⟨#[32, 99, 109, 44, 32, 115, 111, 117, 110, 100, 101, 114, 32]⟩).run Tryd.prog w = .ok (.string s5) w) ∧ (∀ w, (Op.stringOp .add s5 (itoT v.ah)).run Tryd.prog w = .ok (.string s6) w) ∧
    (∀ w, (Op.stringOp .add s6 ⟨#[47]⟩).run Tryd.prog w = .ok (.string s7) w) ∧ (∀ w, (Op.stringOp .add s7 (itoT v.be)).run Tryd.prog w = .ok (.string s8) w) ∧ s8 = txtC v := by
  obtain ⟨⟨i1, i2⟩, ⟨d1, d2⟩, ⟨a1, a2⟩, ⟨b1, b2⟩, _, _, hw⟩ := craftB_parts h
  have l0 := word_size hw
  have l1 := itoT_len v.id (by omega) (by omega)
  have l2 := itoT_len v.dr (by omega) (by omega)
  have l3 := itoT_len v.ah (by omega) (by omega)
  have l4 := itoT_len v.be (by omega) (by omega)
  have z1 : (⟨#[32, 40]⟩ : ByteArray).size = 2 := rfl
  have z2 : (⟨#[41, 44, 32, 100, 114, 97, 117, 103, 104, 116, 32]⟩ : ByteArray).size = 11 := rfl
  have z3 : (⟨#[32, 99, 109, 44, 32, 115, 111, 117, 110, 100, 101, 114, 32]⟩ : ByteArray).size = 13 := rfl
  have z4 : (⟨#[47]⟩ : ByteArray).size = 1 := rfl
  obtain ⟨s1, h1, e1, q1⟩ := cat_any v.nm ⟨#[32, 40]⟩ (by omega)
  obtain ⟨s2, h2, e2, q2⟩ := cat_any s1 (itoT v.id) (by omega)
  obtain ⟨s3, h3, e3, q3⟩ := cat_any s2 ⟨#[41, 44, 32, 100, 114, 97, 117, 103, 104, 116, 32]⟩ (by omega)
  obtain ⟨s4, h4, e4, q4⟩ := cat_any s3 (itoT v.dr) (by omega)
  obtain ⟨s5, h5, e5, q5⟩ := cat_any s4 ⟨#[32, 99, 109, 44, 32, 115, 111, 117, 110, 100, 101, 114, 32]⟩ (by omega)
  obtain ⟨s6, h6, e6, q6⟩ := cat_any s5 (itoT v.ah) (by omega)
  obtain ⟨s7, h7, e7, q7⟩ := cat_any s6 ⟨#[47]⟩ (by omega)
  obtain ⟨s8, h8, e8, q8⟩ := cat_any s7 (itoT v.be) (by omega)
  exact ⟨s1, s2, s3, s4, s5, s6, s7, s8, h1, h2, h3, h4, h5, h6, h7, h8, by rw [e8, e7, e6, e5, e4, e3, e2, e1]; rfl⟩
set_option maxRecDepth 20000 in
set_option maxHeartbeats 3200000 in
theorem text_impl (v : CC) (w : World) (hn : v.nm.size ≤ maxLen) (ht : Pow10 w) :
    Calls Tryd.prog 15 #[.agg #[.int .i64 v.id, .string v.nm, .int .i64 v.dr, .int .i64 v.ah, .int .i64 v.be, .int .i64 v.sp, .int .i64 v.fu]] w (CtPost v w) := by
  have HX := Lib.hid (box1 (cs := #[.int .i64 v.id, .string v.nm, .int .i64 v.dr, .int .i64 v.ah, .int .i64 v.be, .int .i64 v.sp, .int .i64 v.fu]) (T := 25) (Below.refl _ _) (w := w))
  have HP := Lib.hid ht
  clear ht
  have a0 := HX.out.2.at_ 0 _ rfl
  have a1 := HX.out.2.at_ 1 _ rfl
  have a2 := HX.out.2.at_ 2 _ rfl
  have a3 := HX.out.2.at_ 3 _ rfl
  have a4 := HX.out.2.at_ 4 _ rfl
  have a5 := HX.out.2.at_ 5 _ rfl
  have a6 := HX.out.2.at_ 6 _ rfl
  rcases h0 : craftB v with _ | _
  · have H0 := Lib.hid h0
    clear h0
    go_enter Tryd.func15, Tryd.ntmps15
    go_wp2_with fail
    refine (isCraft_v v _ H0.out _ hn).mono ?_
    rintro e w1 ⟨rfl, hb⟩
    have HT := Lib.hid (bthen HX.out.1 hb HX.out.1.size)
    clear hb a0 a1 a2 a3 a4 a5 a6
    go_wp2_with fail
    go_ret2
    exact ct_no H0.out HT.out
  have H0 := Lib.hid h0
  obtain ⟨s1, s2, s3, s4, s5, s6, s7, s8, h1, h2, h3, h4, h5, h6, h7, h8, hs⟩ := txt_parts v h0
  obtain ⟨⟨i1, i2⟩, ⟨d1, d2⟩, ⟨e1, e2⟩, ⟨b1, b2⟩, _⟩ := craftB_parts h0
  have HS := Lib.hid hs
  clear h0 hs
  go_enter Tryd.func15, Tryd.ntmps15
  go_wp2_with fail
  refine (isCraft_v v _ H0.out _ hn).mono ?_
  rintro e W1 ⟨rfl, hb⟩
  have HT := Lib.hid (bthen HX.out.1 hb HX.out.1.size)
  have HX1 := Lib.hid (HX.out.2.next hb)
  have HP1 := Lib.hid (tabIs_below HP.out HT.out)
  clear hb a0 a1 a2 a3 a4 a5 a6
  have a0 := HX1.out.at_ 0 _ rfl
  have a1 := HX1.out.at_ 1 _ rfl
  have a2 := HX1.out.at_ 2 _ rfl
  have a3 := HX1.out.at_ 3 _ rfl
  have a4 := HX1.out.at_ 4 _ rfl
  go_wp2_with fail
  have lc0 := lcell (a0)
  have lc1 := lcell (a1)
  have lc2 := lcell (a2)
  have lc3 := lcell (a3)
  have lc4 := lcell (a4)
  refine region_later (W := W1) (by kernel_rfl) (by kernel_rfl) (Below.refl _ _) ?_
  repeat (go_big_quiet_step (((go_at_call 33; exact later_call (itoa_w _ _ (tabIs_below HP1.out (Later.below _)) (by omega) (by omega))))))
  refine wpQuiet_nil ?_
  intro W2 hW1
  have HL : Hid (Below W1.heap.size W1 W2) := by obtain ⟨x, rfl⟩ := hW1; exact Lib.hid x.below
  clear hW1 lc0 lc1 lc2 lc3 lc4
  have HT2 := Lib.hid (bthen HT.out HL.out HT.out.size)
  clear a0 a1 a2 a3 a4
  go_wp2_with fail
  go_ret2
  exact ct_yes H0.out HS.out HT2.out
set_option maxRecDepth 20000 in
set_option maxHeartbeats 3200000 in
theorem text_spec (v : CC) (w : World) (hn : v.nm.size ≤ maxLen) :
    Calls Tryd.prog 16 #[.agg #[.int .i64 v.id, .string v.nm, .int .i64 v.dr, .int .i64 v.ah, .int .i64 v.be, .int .i64 v.sp, .int .i64 v.fu]] w (CtPost v w) := by
  have HX := Lib.hid (box1 (cs := #[.int .i64 v.id, .string v.nm, .int .i64 v.dr, .int .i64 v.ah, .int .i64 v.be, .int .i64 v.sp, .int .i64 v.fu]) (T := 25) (Below.refl _ _) (w := w))
  have a0 := HX.out.2.at_ 0 _ rfl
  have a1 := HX.out.2.at_ 1 _ rfl
  have a2 := HX.out.2.at_ 2 _ rfl
  have a3 := HX.out.2.at_ 3 _ rfl
  have a4 := HX.out.2.at_ 4 _ rfl
  have a5 := HX.out.2.at_ 5 _ rfl
  have a6 := HX.out.2.at_ 6 _ rfl
  rcases h0 : craftB v with _ | _
  · have H0 := Lib.hid h0
    clear h0
    go_enter Tryd.func16, Tryd.ntmps16
    go_wp2_with fail
    refine (craftOne_v v _ H0.out _ hn).mono ?_
    rintro e w1 ⟨rfl, hb⟩
    have HT := Lib.hid (bthen HX.out.1 hb HX.out.1.size)
    clear hb a0 a1 a2 a3 a4 a5 a6
    go_wp2_with fail
    go_ret2
    exact ct_no H0.out HT.out
  have H0 := Lib.hid h0
  obtain ⟨s1, s2, s3, s4, s5, s6, s7, s8, h1, h2, h3, h4, h5, h6, h7, h8, hs⟩ := txt_parts v h0
  obtain ⟨⟨i1, i2⟩, ⟨d1, d2⟩, ⟨e1, e2⟩, ⟨b1, b2⟩, _⟩ := craftB_parts h0
  have HS := Lib.hid hs
  clear h0 hs
  go_enter Tryd.func16, Tryd.ntmps16
  go_wp2_with fail
  refine (craftOne_v v _ H0.out _ hn).mono ?_
  rintro e W1 ⟨rfl, hb⟩
  have HT := Lib.hid (bthen HX.out.1 hb HX.out.1.size)
  have HX1 := Lib.hid (HX.out.2.next hb)
  clear hb a0 a1 a2 a3 a4 a5 a6
  have a0 := HX1.out.at_ 0 _ rfl
  have a1 := HX1.out.at_ 1 _ rfl
  have a2 := HX1.out.at_ 2 _ rfl
  have a3 := HX1.out.at_ 3 _ rfl
  have a4 := HX1.out.at_ 4 _ rfl
  go_wp2_with fail
  have lc0 := lcell (a0)
  have lc1 := lcell (a1)
  have lc2 := lcell (a2)
  have lc3 := lcell (a3)
  have lc4 := lcell (a4)
  refine region_later (W := W1) (by kernel_rfl) (by kernel_rfl) (Below.refl _ _) ?_
  repeat (go_big_quiet_step (((first | (go_at_call 34; exact later_call (num_w _ _ (by omega) (by omega))) | (go_at_call 35; exact later_call (signed_w _ _ (by omega) (by omega)))))))
  refine wpQuiet_nil ?_
  intro W2 hW1
  have HL : Hid (Below W1.heap.size W1 W2) := by obtain ⟨x, rfl⟩ := hW1; exact Lib.hid x.below
  clear hW1 lc0 lc1 lc2 lc3 lc4
  have HT2 := Lib.hid (bthen HT.out HL.out HT.out.size)
  clear a0 a1 a2 a3 a4
  go_wp2_with fail
  go_ret2
  exact ct_yes H0.out HS.out HT2.out
end Go.Proofs.YtfffahkommbheaaDoor
