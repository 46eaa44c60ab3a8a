/-
  Numbers as text: contracts of spec.l1Num, strconv.Itoa over this translation. Conditions: stated at each theorem.
-/
import Derived.Test.YtklbefdpfhidkaaDoorShelf
import Derived.Test.YtklbefdpfhidkaaDoorQv
import Derived.Lib.ItoaMem
namespace Go.Proofs.YtklbefdpfhidkaaDoor
open Go.RowKit Go.Sort

theorem below_grow (w : World) (os : Array Obj) : Below w.heap.size w (grow w os) :=
  ⟨rfl, rfl, rfl, by simp, fun _ hk => heap_grow_old w os hk⟩
theorem below_drewN (w : World) (k : Nat) : Below w.heap.size w (w.drewN k) := ⟨rfl, rfl, rfl, Nat.le_refl _, fun _ _ => rfl⟩
theorem below_itoa {w w' : World} (h : ∃ k os, w' = grow (w.drewN k) os) : Below w.heap.size w w' := by
  obtain ⟨k, os, rfl⟩ := h
  exact (below_drewN w k).trans (below_grow (w.drewN k) os)

def digits10 : ByteArray := ⟨#[48, 49, 50, 51, 52, 53, 54, 55, 56, 57]⟩
theorem digits10_at : ∀ i : Fin 10, digits10.extract i.val (i.val + 1) = ⟨#[UInt8.ofNat (48 + i.val)]⟩ := by decide +kernel
/-- The text of one digit. -/
def dgt (d : Nat) : ByteArray := ⟨#[UInt8.ofNat (48 + d)]⟩
theorem digit_run (d : Nat) (hd : d < 10) (a b : Int) (ha : a = d) (hb : b = (d : Int) + 1) (w : World) :
    (Instr.slice 9 (.string ⟨#[48, 49, 50, 51, 52, 53, 54, 55, 56, 57]⟩) (some (.int .i64 a)) (some (.int .i64 b)) none).run Tryd.prog w = .ok (.string (dgt d)) w := by
  subst ha hb
  have hs : digits10.size = 10 := by decide +kernel
  show (Instr.slice 9 (.string digits10) (some (.int .i64 (d : Int))) (some (.int .i64 ((d : Int) + 1))) none).run Tryd.prog w = _
  rw [run_slice_string w 9 digits10 .i64 .i64 _ _ Tryd.underlying9 (by omega) (by omega) (by rw [hs]; omega), show ((d : Int)).toNat = d by omega, show ((d : Int) + 1).toNat = d + 1 by omega, digits10_at ⟨d, hd⟩]
  rfl

theorem dlen_le (u : Nat) : (Lib.decDigits u).length ≤ u + 1 := by
  induction u using Nat.strongRecOn with
  | _ u ih =>
    rw [Lib.decDigits]
    split
    · simp
    · rename_i h
      have := ih (u / 10) (by omega)
      simp only [List.length_append, List.length_cons, List.length_nil]
      omega
theorem digits_add (u : Nat) (h : ¬ u < 10) (hb : u ≤ 1000000000) (w : World) :
    (Op.stringOp .add ⟨(Lib.decDigits (u / 10)).toArray⟩ (dgt (u % 10))).run Tryd.prog w = .ok (.string ⟨(Lib.decDigits u).toArray⟩) w := by
  have hl := dlen_le (u / 10)
  rw [run_string_add_sum w _ _ (by simp [ByteArray.size, dgt]; omega)]
  have e : Lib.decDigits u = Lib.decDigits (u / 10) ++ [UInt8.ofNat (48 + u % 10)] := by
    rw [Lib.decDigits, dif_neg h]
  rw [e]
  show Result.ok (Value.string (ByteArray.mk (Lib.decDigits (u / 10)).toArray ++ ByteArray.mk [UInt8.ofNat (48 + u % 10)].toArray)) w = _
  rw [ByteArray.mk_append_mk]

set_option maxHeartbeats 400000 in
theorem num_small (u : Nat) (w : World) (hu : u < 10) :
    Calls Tryd.prog 60 #[.int .i64 u] w fun e w' => e = .returned (.string ⟨(Lib.decDigits u).toArray⟩) ∧ w = w' := by
  have hd := digit_run u hu u ((u : Int) + 1) rfl rfl
  go_enter Tryd.func60, Tryd.ntmps60
  go_wp2
  go_ret
  exact ⟨by rw [Lib.decDigits_one hu]; rfl, rfl⟩
set_option maxHeartbeats 400000 in
theorem num_nat (k : Nat) : ∀ (u : Nat) (w : World), u ≤ k → u ≤ 1000000000 →
    Calls Tryd.prog 60 #[.int .i64 u] w fun e w' => e = .returned (.string ⟨(Lib.decDigits u).toArray⟩) ∧ ∃ n, w' = w.drewN n := by
  induction k with
  | zero =>
    intro u w hk _
    exact (num_small u w (by omega)).mono fun e w' ⟨h1, h2⟩ => ⟨h1, 0, by rw [World.drewN_zero, h2]⟩
  | succ k ih =>
    intro u w hk hb
    by_cases hu : u < 10
    · exact (num_small u w hu).mono fun e w' ⟨h1, h2⟩ => ⟨h1, 0, by rw [World.drewN_zero, h2]⟩
    · have IH := Lib.hid ih
      clear ih
      have hd := digit_run (u % 10) (by omega) ((u : Int) % 10) ((u : Int) % 10 + 1) (by omega) (by omega)
      have h1 : (u : Int).tmod 10 = (u : Int) % 10 := Int.tmod_eq_emod_of_nonneg (by omega)
      have h2 : IntKind.i64.wrap ((u : Int) % 10) = (u : Int) % 10 := IntWalk.i64_in _ (by omega)
      have h3 : IntKind.i64.wrap ((u : Int) % 10 + 1) = (u : Int) % 10 + 1 := IntWalk.i64_in _ (by omega)
      have h5 : IntKind.i64.wrap ((u : Int) / 10) = (u : Int) / 10 := IntWalk.i64_in _ (by omega)
      have h4 : (u : Int) / 10 = ((u / 10 : Nat) : Int) := by omega
      have hc : ∀ W : World, Calls Tryd.prog 60 #[.int .i64 ((u : Int) / 10)] W fun e w' => e = .returned (.string ⟨(Lib.decDigits (u / 10)).toArray⟩) ∧ ∃ n, w' = W.drewN n := fun W => by
        rw [h4]; exact IH.out (u / 10) W (by omega) (by omega)
      have HC := Lib.hid hc
      have ha := digits_add u hu hb
      clear h4 hc IH
      go_enter Tryd.func60, Tryd.ntmps60
      go_wp2_with fail
      go_quiet ((go_at_call 60; exact Calls.quiet_of (HC.out _)))
      go_wp2
      go_ret
      exact ⟨rfl, _, rfl⟩
/-- The numeral of a number, as spec.l1Num writes it. -/
theorem num_any (n : Int) (w : World) (h0 : -1000000000 ≤ n) (h1 : n ≤ 1000000000) :
    Calls Tryd.prog 60 #[.int .i64 n] w fun e w' => e = .returned (.string ⟨(Lib.itoa n).toArray⟩) ∧ ∃ k, w' = w.drewN k := by
  by_cases hn : n < 0
  · obtain ⟨u, rfl⟩ : ∃ u : Nat, n = -(u : Int) := ⟨n.natAbs, by omega⟩
    have hc : ∀ W : World, Calls Tryd.prog 60 #[.int .i64 (u : Int)] W fun e w' => e = .returned (.string ⟨(Lib.decDigits u).toArray⟩) ∧ ∃ n, w' = W.drewN n := fun W => num_nat u u W (Nat.le_refl _) (by omega)
    have HC := Lib.hid hc
    clear hc
    have hl := dlen_le u
    have ha : ∀ w, (Op.stringOp .add ⟨#[45]⟩ ⟨(Lib.decDigits u).toArray⟩).run Tryd.prog w = .ok (.string ⟨(Lib.itoa (-(u : Int))).toArray⟩) w := fun w => by
      rw [run_string_add_sum w _ _ (by simp [ByteArray.size]; omega), Lib.itoa_neg u (by omega)]
      show Result.ok (Value.string (ByteArray.mk [45].toArray ++ ByteArray.mk (Lib.decDigits u).toArray)) w = _
      rw [ByteArray.mk_append_mk]
      rfl
    clear hl
    have hw : IntKind.i64.wrap (- -(u : Int)) = (u : Int) := by rw [Int.neg_neg]; exact IntWalk.i64_in _ (by omega)
    go_enter Tryd.func60, Tryd.ntmps60
    go_wp2_with (go_at_call 60; refine (HC.out _).mono ?_; rintro e w' ⟨rfl, k, rfl⟩)
    go_ret
    exact ⟨rfl, _, rfl⟩
  · obtain ⟨u, rfl⟩ : ∃ u : Nat, n = (u : Int) := ⟨n.toNat, by omega⟩
    rw [Lib.itoa_nonneg]
    exact num_nat u u w (Nat.le_refl _) (by omega)


theorem tabIs_below {w w' : World} {name : String} {k : IntKind} {zs : List Int} (h : Lib.TabIs Tryd.prog w name k zs) (hb : Below w.heap.size w w') : Lib.TabIs Tryd.prog w' name k zs := by
  unfold Lib.TabIs World.var? at *
  cases hg : Tryd.prog.globalNamed name with
  | none => simp [hg] at h
  | some g =>
    simp only [hg, Option.bind_some] at h ⊢
    have hlt : g < w.heap.size := by
      rcases Nat.lt_or_ge g w.heap.size with h' | h'
      · exact h'
      · rw [Array.getElem?_eq_none h'] at h; simp at h
    rw [hb.block g hlt]
    exact h
/-- The table of powers of ten, as the row lists it. -/
abbrev Pow10 (w : World) : Prop := Lib.TabIs Tryd.prog w "internal/strconv.uint64pow10" .u64 Lib.pow10Tab


def itoT (n : Int) : ByteArray := ⟨(Lib.itoa n).toArray⟩
theorem itoT_len (n : Int) (h0 : -20000 ≤ n) (h1 : n ≤ 20000) : (itoT n).size ≤ 20002 := by
  have hs : (itoT n).size = (Lib.itoa n).length := by simp [itoT, ByteArray.size]
  rw [hs]
  by_cases hn : n < 0
  · obtain ⟨u, rfl⟩ : ∃ u : Nat, n = -(u : Int) := ⟨n.natAbs, by omega⟩
    rw [Lib.itoa_neg u (by omega)]
    have := dlen_le u
    simp only [List.length_cons]
    omega
  · obtain ⟨u, rfl⟩ : ∃ u : Nat, n = (u : Int) := ⟨n.toNat, by omega⟩
    rw [Lib.itoa_nonneg]
    have := dlen_le u
    omega
theorem num_v (n : Int) (s : ByteArray) (hs : itoT n = s) (w : World) (h0 : -1000000000 ≤ n) (h1 : n ≤ 1000000000) :
    Calls Tryd.prog 60 #[.int .i64 n] w fun e w' => e = .returned (.string s) ∧ Below w.heap.size w w' := by
  subst hs
  exact (num_any n w h0 h1).mono fun e w' ⟨h, k, hk⟩ => ⟨h, by rw [hk]; exact below_drewN w k⟩
theorem itoa_v (n : Int) (s : ByteArray) (hs : itoT n = s) (w : World) (ht : Pow10 w) (h0 : -1000000000 ≤ n) (h1 : n ≤ 1000000000) :
    Calls Tryd.prog 25 #[.int .i64 n] w fun e w' => e = .returned (.string s) ∧ Below w.heap.size w w' := by
  subst hs
  exact (Tryd.strconv_Itoa n (by omega) (by omega) w ht).mono fun e w' ⟨h, hb⟩ => ⟨h, below_itoa hb⟩
theorem num_w (n : Int) (w : World) (h0 : -1000000000 ≤ n) (h1 : n ≤ 1000000000) :
    Calls Tryd.prog 60 #[.int .i64 n] w fun e w' => e = .returned (.string (itoT n)) ∧ Below w.heap.size w w' := num_v n _ rfl w h0 h1
theorem itoa_w (n : Int) (w : World) (ht : Pow10 w) (h0 : -1000000000 ≤ n) (h1 : n ≤ 1000000000) :
    Calls Tryd.prog 25 #[.int .i64 n] w fun e w' => e = .returned (.string (itoT n)) ∧ Below w.heap.size w w' := itoa_v n _ rfl w ht h0 h1
theorem cat_any (a b : ByteArray) (h : a.size + b.size ≤ 1000000) : ∃ s, (∀ w, (Op.stringOp .add a b).run Tryd.prog w = .ok (.string s) w) ∧ s = a ++ b ∧ s.size = a.size + b.size :=
  ⟨a ++ b, fun w => run_string_add_sum w a b (by omega), rfl, ByteArray.size_append⟩
theorem dlen_lt (m : Nat) : ∀ u, u < 10 ^ (m + 1) → (Lib.decDigits u).length ≤ m + 1 := by
  induction m with
  | zero => intro u h; rw [Lib.decDigits_one (by simpa using h)]; simp
  | succ m ih =>
    intro u h
    by_cases h1 : u < 10
    · rw [Lib.decDigits_one h1]; simp
    · rw [Lib.decDigits, dif_neg h1]
      have := ih (u / 10) (by rw [Nat.pow_succ] at h; omega)
      simp only [List.length_append, List.length_cons, List.length_nil]
      omega
theorem itoT_six (n : Int) (h0 : -99999 ≤ n) (h1 : n ≤ 99999) : (itoT n).size ≤ 6 := by
  have hs : (itoT n).size = (Lib.itoa n).length := by simp [itoT, ByteArray.size]
  rw [hs]
  by_cases hn : n < 0
  · obtain ⟨u, rfl⟩ : ∃ u : Nat, n = -(u : Int) := ⟨n.natAbs, by omega⟩
    rw [Lib.itoa_neg u (by omega)]
    have := dlen_lt 4 u (by omega)
    simp only [List.length_cons]
    omega
  · obtain ⟨u, rfl⟩ : ∃ u : Nat, n = (u : Int) := ⟨n.toNat, by omega⟩
    rw [Lib.itoa_nonneg]
    have := dlen_lt 4 u (by omega)
    omega
end Go.Proofs.YtklbefdpfhidkaaDoor
