/-
  Contracts of the functions on checksums (spec.l1Sum, impl.Checksum, spec.l1Stands, strings.Contains at one byte, spec.l1Seal, spec.AppendChecksum, impl.AppendChecksum) over this translation. Conditions: stated at each theorem.
-/
import Derived.Test.YtcnpbhbhklmifaaDoorNum
namespace Go.Proofs.YtcnpbhbhklmifaaDoor
open Go.RowKit Go.Sort

/-! ### The checksum of a list of bytes -/
def sumFrom (h : Int) (l : List UInt8) : Int := l.foldl (fun h c => (41 * h + (c.toNat : Int) + 1) % 999979) h
theorem sumFrom_snoc (h : Int) (l : List UInt8) (c : UInt8) : sumFrom h (l ++ [c]) = (41 * sumFrom h l + (c.toNat : Int) + 1) % 999979 := by
  unfold sumFrom; rw [List.foldl_append]; rfl
theorem sumFrom_bd (l : List UInt8) : ∀ h : Int, 0 ≤ h → h ≤ 999978 → 0 ≤ sumFrom h l ∧ sumFrom h l ≤ 999978 := by
  induction l with
  | nil => intro h h0 h1; exact ⟨h0, h1⟩
  | cons c l ih => intro h h0 h1; exact ih ((41 * h + (c.toNat : Int) + 1) % 999979) (by omega) (by omega)
theorem take_snoc (s : ByteArray) (k : Nat) (h : k < s.size) : s.data.toList.take (k + 1) = s.data.toList.take k ++ [s[k]] := by
  rw [List.take_succ_eq_append_getElem (by simpa using h)]; rfl
theorem ret_int {k : IntKind} {a b : Int} (h : a = b) : Ending.returned (.int k a) = .returned (.int k b) := by rw [h]
theorem ret_int_true {k : IntKind} {a b : Int} (h : a = b) : Ending.returned (.tuple #[.int k a, .bool true]) = .returned (.tuple #[.int k b, .bool true]) := by rw [h]
theorem ret_bool {a b : Bool} (h : a = b) : Ending.returned (.bool a) = .returned (.bool b) := by rw [h]
/-- The checksum of a text. -/
def sumB (s : ByteArray) : Int := sumFrom 7 s.data.toList
theorem sumB_bd (s : ByteArray) : 0 ≤ sumB s ∧ sumB s ≤ 999978 := sumFrom_bd _ 7 (by decide) (by decide)

set_option maxHeartbeats 400000 in
theorem sum_spec (s : ByteArray) (w : World) (hs : s.size ≤ 1048576) :
    Calls Tryd.prog 42 #[.string s] w fun e w' => e = .returned (.int .i64 (sumB s)) ∧ w = w' := by
  go_enter Tryd.func42, Tryd.ntmps42
  go_wp2
  go_loop [3, 4] (fun n i => ∃ k : Nat, k ≤ s.size ∧ i = .int .i64 k ∧ n = .int .i64 (sumFrom 7 (s.data.toList.take k))) (fun _ i => s.size - (intOf i).toNat)
  case atStart => exact ⟨0, Nat.zero_le _, rfl, rfl⟩
  case round =>
    obtain ⟨k, hk, rfl, rfl⟩ := hrel
    obtain ⟨hd1, hd2⟩ := sumFrom_bd (s.data.toList.take k) 7 (by decide) (by decide)
    by_cases hlt : k < s.size
    · have HS : Hid (sumFrom 7 (s.data.toList.take (k + 1)) = (41 * sumFrom 7 (s.data.toList.take k) + (s[k].toNat : Int) + 1) % 999979) := by rw [take_snoc s k hlt]; exact sumFrom_snoc _ _ _
      have hb : s[k].toNat < 256 := s[k].toNat_lt
      go_wp2
      go_round
      case rel => exact ⟨k + 1, by omega, by go_num, by rw [HS.out]⟩
      case measure => simp [intOf]; omega
    · go_wp2
      go_ret
      exact ⟨ret_int (by rw [List.take_of_length_le (by simp; omega)]; rfl), rfl⟩
set_option maxHeartbeats 400000 in
theorem sum_impl (s : ByteArray) (w : World) (hs : s.size ≤ 4000) :
    Calls Tryd.prog 31 #[.string s] w fun e w' => e = .returned (.tuple #[.int .i64 (sumB s), .bool true]) ∧ w = w' := by
  go_enter Tryd.func31, Tryd.ntmps31
  go_wp2
  go_loop [4, 11] (fun n i => ∃ k : Nat, k ≤ s.size ∧ i = .int .i64 k ∧ n = .int .i64 (sumFrom 7 (s.data.toList.take k))) (fun _ i => s.size - (intOf i).toNat)
  case atStart => exact ⟨0, Nat.zero_le _, rfl, rfl⟩
  case round =>
    obtain ⟨k, hk, rfl, rfl⟩ := hrel
    obtain ⟨hd1, hd2⟩ := sumFrom_bd (s.data.toList.take k) 7 (by decide) (by decide)
    by_cases hlt : k < s.size
    · have HS : Hid (sumFrom 7 (s.data.toList.take (k + 1)) = (41 * sumFrom 7 (s.data.toList.take k) + (s[k].toNat : Int) + 1) % 999979) := by rw [take_snoc s k hlt]; exact sumFrom_snoc _ _ _
      have hb : s[k].toNat < 256 := s[k].toNat_lt
      go_wp2
      go_round
      case rel => exact ⟨k + 1, by omega, by go_num, by rw [HS.out]⟩
      case measure => simp [intOf]; omega
    · go_wp2
      go_ret2
      exact ⟨ret_int_true (by rw [List.take_of_length_le (by simp; omega)]; rfl), rfl⟩
theorem sum_impl_no (s : ByteArray) (w : World) (hs : (4000 : Int) < s.size) :
    Calls Tryd.prog 31 #[.string s] w fun e w' => e = .returned (.tuple #[.int .i64 0, .bool false]) ∧ w = w' := by
  go_enter Tryd.func31, Tryd.ntmps31
  go_wp2
  go_ret2
  exact ⟨rfl, rfl⟩

/-! ### Does a byte stand in a text? -/
/-- Does the byte b stand in s? -/
def standsB (s : ByteArray) (b : UInt8) : Bool := decide (b ∈ s.data.toList)
set_option maxHeartbeats 400000 in
theorem stands_any (s : ByteArray) (b : UInt8) (n : Int) (hn : n = (b.toNat : Int)) (w : World) (hs : s.size ≤ 1048576) :
    Calls Tryd.prog 33 #[.string s, .int .u8 n] w fun e w' => e = .returned (.bool (standsB s b)) ∧ w = w' := by
  subst hn
  go_enter Tryd.func33, Tryd.ntmps33
  go_wp2
  go_loop [5] (fun i => ∃ k : Nat, k ≤ s.size ∧ i = .int .i64 k ∧ Hid (b ∉ s.data.toList.take k)) (fun i => s.size - (intOf i).toNat)
  case atStart => exact ⟨0, Nat.zero_le _, rfl, by simp [Hid]⟩
  case round =>
    obtain ⟨k, hk, rfl, hno⟩ := hrel
    by_cases hlt : k < s.size
    · by_cases he : s[k] = b
      · have hd : ((s[k].toNat : Int) == (b.toNat : Int)) = true := by rw [he]; simp
        have HM : Hid (b ∈ s.data.toList) := by
          have : b ∈ s.data.toList.take (k + 1) := by rw [take_snoc s k hlt, he]; simp
          exact List.mem_of_mem_take this
        have HD := Lib.hid he
        clear he
        go_wp2
        go_ret
        exact ⟨ret_bool (decide_eq_true HM.out).symm, rfl⟩
      · have hd : ((s[k].toNat : Int) == (b.toNat : Int)) = false := by
          have : s[k].toNat ≠ b.toNat := fun e => he (UInt8.toNat_inj.1 e)
          exact beq_eq_false_iff_ne.2 (by omega)
        have HM : Hid (b ∉ s.data.toList.take (k + 1)) := by
          rw [take_snoc s k hlt]
          intro hm
          rcases List.mem_append.1 hm with h | h
          · exact hno.out h
          · exact he (List.mem_singleton.1 h).symm
        have HD := Lib.hid he
        clear he
        go_wp2
        go_round
        case rel => exact ⟨k + 1, by omega, by go_num, HM⟩
        case measure => simp [intOf]; omega
    · have HM : Hid (b ∉ s.data.toList) := by
        have := hno.out
        rwa [List.take_of_length_le (by simp; omega)] at this
      go_wp2
      go_ret
      exact ⟨ret_bool (decide_eq_false HM.out).symm, rfl⟩
theorem stands_yes (s : ByteArray) (b : UInt8) (n : Int) (hn : n = (b.toNat : Int)) (w : World) (hs : s.size ≤ 1048576) (hm : b ∈ s.data.toList) :
    Calls Tryd.prog 33 #[.string s, .int .u8 n] w fun e w' => e = .returned (.bool true) ∧ w = w' :=
  (stands_any s b n hn w hs).mono fun e w' ⟨h1, h2⟩ => ⟨by rw [h1, standsB, decide_eq_true hm], h2⟩
theorem stands_no (s : ByteArray) (b : UInt8) (n : Int) (hn : n = (b.toNat : Int)) (w : World) (hs : s.size ≤ 1048576) (hm : b ∉ s.data.toList) :
    Calls Tryd.prog 33 #[.string s, .int .u8 n] w fun e w' => e = .returned (.bool false) ∧ w = w' :=
  (stands_any s b n hn w hs).mono fun e w' ⟨h1, h2⟩ => ⟨by rw [h1, standsB, decide_eq_false hm], h2⟩
theorem mem_indexByte (l : List UInt8) (c : UInt8) : c ∈ l ↔ 0 ≤ Lib.indexByte l c := by
  constructor
  · intro h
    by_cases h0 : 0 ≤ Lib.indexByte l c
    · exact h0
    · have h1 := Lib.indexByte_ge l c
      have h2 : Lib.indexByte l c = -1 := by omega
      obtain ⟨k, hk, e⟩ := List.getElem_of_mem h
      exact absurd (by rw [List.getElem?_eq_getElem hk, e]) (Lib.indexByte_none h2 k)
  · intro h
    obtain ⟨o, ho⟩ : ∃ o : Nat, Lib.indexByte l c = o := ⟨(Lib.indexByte l c).toNat, by omega⟩
    exact List.mem_of_getElem? (Lib.indexByte_some ho).1
theorem contains_yes (s : ByteArray) (c : UInt8) (w : World) (hm : c ∈ s.data.toList) :
    Calls Tryd.prog 32 #[.string s, .string ⟨#[c]⟩] w fun e w' => e = .returned (.bool true) ∧ w = w' :=
  (Tryd.strings_Contains_one s c w).mono fun e w' ⟨h1, h2⟩ => ⟨by rw [h1, decide_eq_true ((mem_indexByte _ _).1 hm)], h2.symm⟩
theorem contains_no (s : ByteArray) (c : UInt8) (w : World) (hm : c ∉ s.data.toList) :
    Calls Tryd.prog 32 #[.string s, .string ⟨#[c]⟩] w fun e w' => e = .returned (.bool false) ∧ w = w' :=
  (Tryd.strings_Contains_one s c w).mono fun e w' ⟨h1, h2⟩ => ⟨by rw [h1, decide_eq_false (fun h => hm ((mem_indexByte _ _).2 h))], h2.symm⟩

/-! ### A text and its checksum -/
/-- The text with the mark. -/
def markB (s : ByteArray) : ByteArray := s ++ ⟨#[35]⟩
/-- The text with the mark and the numeral of its checksum. -/
def sealB (s : ByteArray) : ByteArray := ⟨(s.data.toList ++ 35 :: Lib.itoa (sumB s)).toArray⟩
theorem itoa_len (n : Int) (h0 : 0 ≤ n) (h1 : n ≤ 999978) : (Lib.itoa n).length ≤ 999979 := by
  obtain ⟨u, rfl⟩ : ∃ u : Nat, n = (u : Int) := ⟨n.toNat, by omega⟩
  rw [Lib.itoa_nonneg]
  have := dlen_le u
  omega
theorem markB_size (s : ByteArray) : (markB s).size = s.size + 1 := by
  show (s ++ (⟨#[35]⟩ : ByteArray)).size = _
  rw [ByteArray.size_append]; rfl
theorem numB_size (n : Int) : (⟨(Lib.itoa n).toArray⟩ : ByteArray).size = (Lib.itoa n).length := by simp [ByteArray.size]
theorem sealB_eq (s : ByteArray) : markB s ++ (⟨(Lib.itoa (sumB s)).toArray⟩ : ByteArray) = sealB s := by
  apply ByteArray.ext
  simp [markB, sealB]
theorem sealB_size (s : ByteArray) : (sealB s).size = s.size + 1 + (Lib.itoa (sumB s)).length := by
  rw [← sealB_eq, ByteArray.size_append, markB_size, numB_size]
theorem sealB_bd (s : ByteArray) : s.size ≤ (sealB s).size ∧ (sealB s).size ≤ s.size + 999980 := by
  have h := sumB_bd s
  have := itoa_len (sumB s) h.1 h.2
  rw [sealB_size]
  omega
theorem add_mark (s : ByteArray) (hs : s.size ≤ 1048576) (w : World) : (Op.stringOp .add s ⟨#[35]⟩).run Tryd.prog w = .ok (.string (markB s)) w := by
  have e : (⟨#[35]⟩ : ByteArray).size = 1 := rfl
  rw [run_string_add_sum w _ _ (by rw [e]; omega)]
  rfl
theorem add_num (s : ByteArray) (hs : s.size ≤ 1048576) (w : World) : (Op.stringOp .add (markB s) ⟨(Lib.itoa (sumB s)).toArray⟩).run Tryd.prog w = .ok (.string (sealB s)) w := by
  have h := sumB_bd s
  have hl := itoa_len (sumB s) h.1 h.2
  rw [run_string_add_sum w _ _ (by rw [markB_size, numB_size]; omega), sealB_eq]
set_option maxHeartbeats 400000 in
theorem seal_any (s : ByteArray) (w : World) (hs : s.size ≤ 1048576) :
    Calls Tryd.prog 34 #[.string s] w fun e w' => e = .returned (.string (sealB s)) ∧ ∃ k, w' = w.drewN k := by
  have h1 := add_mark s hs
  have h2 := add_num s hs
  obtain ⟨b1, b2⟩ := sumB_bd s
  go_enter Tryd.func34, Tryd.ntmps34
  go_wp2_with (first
    | (go_at_call 42; refine (sum_spec s _ hs).mono ?_; rintro e w' ⟨rfl, rfl⟩)
    | (go_at_call 25; refine (num_any (sumB s) _ (by omega) (by omega)).mono ?_; rintro e w' ⟨rfl, k, rfl⟩))
  go_ret
  exact ⟨rfl, _, rfl⟩

/-! ### AppendChecksum -/
/-- The texts that get a checksum. -/
def Sealable (s : ByteArray) : Prop := s.size ≤ 4000 ∧ (35 : UInt8) ∉ s.data.toList ∧ (sealB s).size ≤ 4000
set_option maxHeartbeats 800000 in
theorem app_spec_yes (s : ByteArray) (w : World) (h : Sealable s) :
    Calls Tryd.prog 17 #[.string s] w fun e w' => e = .returned (.tuple #[.string (sealB s), .bool true]) ∧ ∃ k, w' = w.drewN k := by
  obtain ⟨h1, h2, h3⟩ := h
  have H2 := Lib.hid h2
  clear h2
  go_enter Tryd.func17, Tryd.ntmps17
  go_wp2_with (first
    | (go_at_call 33; refine (stands_no s 35 _ rfl _ (by omega) H2.out).mono ?_; rintro e w' ⟨rfl, rfl⟩)
    | (go_at_call 34; refine (seal_any s _ (by omega)).mono ?_; rintro e w' ⟨rfl, k, rfl⟩))
  go_ret2
  exact ⟨rfl, _, rfl⟩
set_option maxHeartbeats 800000 in
theorem app_spec_no (s : ByteArray) (w : World) (hs : s.size ≤ 1048576) (h : ¬ Sealable s) :
    Calls Tryd.prog 17 #[.string s] w fun e w' => e = .returned (.tuple #[.string ⟨#[]⟩, .bool false]) ∧ ∃ k, w' = w.drewN k := by
  by_cases h1 : (4000 : Int) < s.size
  · clear h
    go_enter Tryd.func17, Tryd.ntmps17
    go_wp2_with fail
    go_ret2
    exact ⟨rfl, 0, by rw [World.drewN_zero]⟩
  by_cases h2 : (35 : UInt8) ∈ s.data.toList
  · have H2 := Lib.hid h2
    clear h2 h
    go_enter Tryd.func17, Tryd.ntmps17
    go_wp2_with (go_at_call 33; refine (stands_yes s 35 _ rfl _ hs H2.out).mono ?_; rintro e w' ⟨rfl, rfl⟩)
    go_ret2
    exact ⟨rfl, 0, by rw [World.drewN_zero]⟩
  have h3 : (4000 : Int) < (sealB s).size := by
    by_cases h3 : (4000 : Int) < (sealB s).size
    · exact h3
    · exact absurd ⟨by omega, h2, by omega⟩ h
  have H2 := Lib.hid h2
  clear h2 h
  go_enter Tryd.func17, Tryd.ntmps17
  go_wp2_with (first
    | (go_at_call 33; refine (stands_no s 35 _ rfl _ hs H2.out).mono ?_; rintro e w' ⟨rfl, rfl⟩)
    | (go_at_call 34; refine (seal_any s _ hs).mono ?_; rintro e w' ⟨rfl, k, rfl⟩))
  go_ret2
  exact ⟨rfl, _, rfl⟩
set_option maxHeartbeats 800000 in
theorem app_impl_yes (s : ByteArray) (w : World) (h : Sealable s) (ht : Pow10 w) :
    Calls Tryd.prog 16 #[.string s] w fun e w' => e = .returned (.tuple #[.string (sealB s), .bool true]) ∧ Below w.heap.size w w' := by
  obtain ⟨h1, h2, h3⟩ := h
  have H2 := Lib.hid h2
  have HT := Lib.hid ht
  clear h2 ht
  have a1 := add_mark s (by omega)
  have a2 := add_num s (by omega)
  obtain ⟨b1, b2⟩ := sumB_bd s
  go_enter Tryd.func16, Tryd.ntmps16
  go_wp2_with (first
    | (go_at_call 31; refine (sum_impl s _ h1).mono ?_; rintro e w' ⟨rfl, rfl⟩)
    | (go_at_call 32; refine (contains_no s 35 _ H2.out).mono ?_; rintro e w' ⟨rfl, rfl⟩)
    | (go_at_call 23; refine (Tryd.strconv_Itoa (sumB s) (by omega) (by omega) _ HT.out).mono ?_; rintro e w' ⟨rfl, hb⟩; have HB := Lib.hid (below_itoa hb); clear hb))
  go_ret2
  exact ⟨rfl, HB.out⟩
set_option maxHeartbeats 800000 in
theorem app_impl_no (s : ByteArray) (w : World) (hs : s.size ≤ 1048576) (h : ¬ Sealable s) (ht : Pow10 w) :
    Calls Tryd.prog 16 #[.string s] w fun e w' => e = .returned (.tuple #[.string ⟨#[]⟩, .bool false]) ∧ Below w.heap.size w w' := by
  by_cases h1 : (4000 : Int) < s.size
  · clear h
    go_enter Tryd.func16, Tryd.ntmps16
    go_wp2_with (go_at_call 31; refine (sum_impl_no s _ h1).mono ?_; rintro e w' ⟨rfl, rfl⟩)
    go_ret2
    exact ⟨rfl, Below.refl _ _⟩
  have h1' : s.size ≤ 4000 := by omega
  by_cases h2 : (35 : UInt8) ∈ s.data.toList
  · have H2 := Lib.hid h2
    clear h2 h
    go_enter Tryd.func16, Tryd.ntmps16
    go_wp2_with (first
      | (go_at_call 31; refine (sum_impl s _ h1').mono ?_; rintro e w' ⟨rfl, rfl⟩)
      | (go_at_call 32; refine (contains_yes s 35 _ H2.out).mono ?_; rintro e w' ⟨rfl, rfl⟩))
    go_ret2
    exact ⟨rfl, Below.refl _ _⟩
  have h3 : (4000 : Int) < (sealB s).size := by
    by_cases h3 : (4000 : Int) < (sealB s).size
    · exact h3
    · exact absurd ⟨by omega, h2, by omega⟩ h
  have H2 := Lib.hid h2
  have HT := Lib.hid ht
  clear h2 h ht
  have a1 := add_mark s (by omega)
  have a2 := add_num s (by omega)
  obtain ⟨b1, b2⟩ := sumB_bd s
  go_enter Tryd.func16, Tryd.ntmps16
  go_wp2_with (first
    | (go_at_call 31; refine (sum_impl s _ h1').mono ?_; rintro e w' ⟨rfl, rfl⟩)
    | (go_at_call 32; refine (contains_no s 35 _ H2.out).mono ?_; rintro e w' ⟨rfl, rfl⟩)
    | (go_at_call 23; refine (Tryd.strconv_Itoa (sumB s) (by omega) (by omega) _ HT.out).mono ?_; rintro e w' ⟨rfl, hb⟩; have HB := Lib.hid (below_itoa hb); clear hb))
  go_ret2
  exact ⟨rfl, HB.out⟩
end Go.Proofs.YtcnpbhbhklmifaaDoor
