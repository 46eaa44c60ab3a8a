/-
  Contracts in the form that laws.FnStrings asks; a text as bytes, one of them changed, and back. Conditions: stated at each theorem.
-/
import Derived.Test.YtcnpbhbhklmifaaDoorDraw
import Derived.Test.YtcnpbhbhklmifaaDoorDetect
import Derived.Lib.ConvBytes
namespace Go.Proofs.YtcnpbhbhklmifaaDoor
open Go.RowKit Go.Sort

/-- Two results. -/
def Res2 (u v : Value) (w : World) (e : Ending) (w' : World) : Prop := e = .returned (.tuple #[u, v]) ∧ Below w.heap.size w w'
theorem below_is {w w' : World} (h : w = w') : Below w.heap.size w w' := by rw [← h]; exact Below.refl _ _
theorem below_k {w w' : World} (h : ∃ k, w' = w.drewN k) : Below w.heap.size w w' := by
  obtain ⟨k, rfl⟩ := h; exact below_drewN w k
theorem itoa_mild (n : Int) (h0 : -1000000 ≤ n) (h1 : n ≤ 1000000) : Mild ⟨(Lib.itoa n).toArray⟩ := by
  unfold Mild
  rw [numB_size]
  by_cases hn : n < 0
  · obtain ⟨u, rfl⟩ : ∃ u : Nat, n = -(u : Int) := ⟨n.natAbs, by omega⟩
    have e : Lib.itoa (-(u : Int)) = 45 :: Lib.decDigits u := by
      unfold Lib.itoa
      rw [if_pos hn]
      congr 2
      omega
    rw [e]
    have := dlen_le u
    simp only [List.length_cons]
    omega
  · obtain ⟨u, rfl⟩ : ∃ u : Nat, n = (u : Int) := ⟨n.toNat, by omega⟩
    rw [Lib.itoa_nonneg]
    have := dlen_le u
    omega
theorem fmt_res (n : Int) (hn : Million n) : ∃ (s : ByteArray) (R : Bool), Mild s ∧ (∀ w, Pow10 w → Calls Tryd.prog 10 #[.int .i64 n] w (Res2 (.string s) (.bool R) w)) ∧ (∀ w, Calls Tryd.prog 11 #[.int .i64 n] w (Res2 (.string s) (.bool R) w)) ∧
    ((R = true ∧ Num s n) ∨ R = false) := by
  by_cases h : -999999 ≤ n ∧ n ≤ 999999
  · exact ⟨⟨(Lib.itoa n).toArray⟩, true, itoa_mild n hn.1 hn.2, fun w ht => fmt_impl_yes n w h.1 h.2 ht, fun w => (fmt_spec_yes n w h.1 h.2).mono fun e w' ⟨he, hw⟩ => ⟨he, below_k hw⟩, .inl ⟨rfl, h.1, h.2, by simp⟩⟩
  · have h' : n < -999999 ∨ 999999 < n := by omega
    exact ⟨⟨#[]⟩, false, by unfold Mild; decide, fun w _ => (fmt_impl_no n w h').mono fun e w' ⟨he, hw⟩ => ⟨he, below_is hw⟩, fun w => (fmt_spec_no n w h').mono fun e w' ⟨he, hw⟩ => ⟨he, below_is hw⟩, .inr rfl⟩
theorem parse_res (t : ByteArray) (ht : Mild t) : ∃ (m : Int) (R : Bool), (∀ w, Pow10 w → Errs w → Calls Tryd.prog 13 #[.string t] w (Res2 (.int .i64 m) (.bool R) w)) ∧ (∀ w, Calls Tryd.prog 14 #[.string t] w (Res2 (.int .i64 m) (.bool R) w)) ∧
    ∀ n, Num t n → m = n ∧ R = true := by
  unfold Mild at ht
  by_cases h : ∃ n, Num t n
  · obtain ⟨n, h⟩ := h
    exact ⟨n, true, fun w hp _ => parse_impl_yes t n h ht w hp, fun w => (parse_spec_yes t n h w ht).mono fun e w' ⟨he, hw⟩ => ⟨he, below_k hw⟩, fun m hm => ⟨h.unique hm, rfl⟩⟩
  · have h' : ∀ n, ¬ Num t n := fun n hn => h ⟨n, hn⟩
    exact ⟨0, false, fun w hp he => parse_impl_no t h' ht w hp he, fun w => (parse_spec_no t h' w ht).mono fun e w' ⟨he, hw⟩ => ⟨he, below_k hw⟩, fun m hm => absurd hm (h' m)⟩
theorem app_res (x : ByteArray) (hx : Mild x) : ∃ (y : ByteArray) (R : Bool), (∀ w, Pow10 w → Calls Tryd.prog 16 #[.string x] w (Res2 (.string y) (.bool R) w)) ∧ (∀ w, Calls Tryd.prog 17 #[.string x] w (Res2 (.string y) (.bool R) w)) ∧
    ((R = true ∧ Sealable x ∧ y = sealB x) ∨ (R = false ∧ y = ⟨#[]⟩)) := by
  unfold Mild at hx
  by_cases h : Sealable x
  · exact ⟨sealB x, true, fun w hp => app_impl_yes x w h hp, fun w => (app_spec_yes x w h).mono fun e w' ⟨he, hw⟩ => ⟨he, below_k hw⟩, .inl ⟨rfl, h, rfl⟩⟩
  · exact ⟨⟨#[]⟩, false, fun w hp => app_impl_no x w hx h hp, fun w => (app_spec_no x w hx h).mono fun e w' ⟨he, hw⟩ => ⟨he, below_k hw⟩, .inr ⟨rfl, rfl⟩⟩

/-! ### A sealed text -/
theorem seal_list (x : ByteArray) : (sealB x).data.toList = sealL x.data.toList := by simp [sealB, sealL, sumB]
theorem head_list (s : ByteArray) : (headB 35 s).data.toList = s.data.toList.takeWhile (fun c => c != 35) := by simp [headB]
theorem head_seal (x : ByteArray) (h : (35 : UInt8) ∉ x.data.toList) : headB 35 (sealB x) = x := by
  apply ByteArray.ext
  apply Array.toList_inj.1
  rw [head_list, seal_list]
  exact tw_stop _ _ h
theorem seal_ok (x : ByteArray) (h : Sealable x) : Verifiable (sealB x) := by
  obtain ⟨_, h2, h3⟩ := h
  exact ⟨h3, by rw [head_seal x h2]⟩
/-- The text y with byte k turned into c. -/
def chB (y : ByteArray) (k : Nat) (c : UInt8) : ByteArray := ⟨(y.data.toList.set k c).toArray⟩
theorem chB_size (y : ByteArray) (k : Nat) (c : UInt8) : (chB y k c).size = y.size := by
  show (y.data.toList.set k c).toArray.size = y.data.size
  simp
theorem len_size (y : ByteArray) : y.data.toList.length = y.size := Array.length_toList
theorem changed_bad (x : ByteArray) (h : Sealable x) (k : Nat) (c : UInt8) (hk : k < (sealB x).data.toList.length) (hc : c ≠ (sealB x).data.toList[k]) : ¬ Verifiable (chB (sealB x) k c) := by
  intro hv
  have hk' : k < (sealL x.data.toList).length := by rw [← seal_list]; exact hk
  have hc' : c ≠ (sealL x.data.toList)[k] := by
    intro e
    apply hc
    rw [e]
    have e1 : (sealB x).data.toList[k]? = (sealL x.data.toList)[k]? := by rw [seal_list]
    rw [List.getElem?_eq_getElem hk, List.getElem?_eq_getElem hk'] at e1
    exact (Option.some.inj e1).symm
  have hd := detect x.data.toList h.2.1 k hk' c hc'
  apply hd
  have h2 := congrArg (fun s : ByteArray => s.data.toList) hv.2
  simp only [seal_list, head_list] at h2
  have e2 : (chB (sealB x) k c).data.toList = (sealL x.data.toList).set k c := by simp [chB, seal_list]
  rw [e2] at h2
  exact h2

/-! ### A text as bytes -/
/-- Block g holds the bytes l, and they may be written. -/
def BytesAt (w : World) (g : Nat) (l : List UInt8) : Prop := ∀ j (hj : j < l.length), w.cell? ⟨g, j, none⟩ = some (.int .u8 (l[j].toNat : Int)) ∧ w.frozen? ⟨g, j, none⟩ = false
theorem to_bytes (y : ByteArray) (w : World) : ∃ cap w', (convert 9 22 (.string y)).run Tryd.prog w = .ok (.slice (some ⟨w.heap.size, 0, none⟩) y.size cap) w' ∧ BytesAt w' w.heap.size y.data.toList ∧ Below w.heap.size w w' ∧ w.heap.size < w'.heap.size := by
  refine ⟨_, _, Lib.run_convert_string_bytes w 9 22 5 y Tryd.underlying9 Tryd.underlying22 Tryd.underlying5, ?_, ?_, ?_⟩
  · intro j hj
    have hj' : j < y.size := by rw [← len_size]; exact hj
    refine ⟨?_, ?_⟩
    · rw [Lib.bytesWorld_cell w 5 y j hj']
      rw [List.getD_eq_getElem?_getD, List.getElem?_eq_getElem hj]
      rfl
    · have hs : y.size ≤ (Lib.bytesCells w 5 y).size := by
        have e : y.size = y.data.size := rfl
        simp only [Lib.bytesCells, Array.size_append, Array.size_map, Array.size_replicate]
        omega
      unfold World.frozen?
      rw [Lib.bytesWorld_at_new]
      simp
      omega
  · refine ⟨rfl, rfl, rfl, by rw [Lib.bytesWorld_size]; omega, fun k hk => Lib.bytesWorld_at_old w 5 y k hk⟩
  · rw [Lib.bytesWorld_size]; omega
theorem back_bytes (y : ByteArray) (w : World) (g cap k : Nat) (c : UInt8) (h : BytesAt w g y.data.toList) (hk : k < y.data.toList.length) :
    (convert 22 9 (.slice (some ⟨g, 0, none⟩) y.size cap)).run Tryd.prog (w.setCell ⟨g, k, none⟩ (.int .u8 (c.toNat : Int))) = .ok (.string (chB y k c)) (w.setCell ⟨g, k, none⟩ (.int .u8 (c.toNat : Int))) := by
  have e := run_convert_bytes_back (P := Tryd.prog) (w.setCell ⟨g, k, none⟩ (.int .u8 (c.toNat : Int))) 22 9 5 ⟨g, 0, none⟩ cap (y.data.toList.set k c) Tryd.underlying22 Tryd.underlying5 Tryd.underlying9 (fun j hj => by
    have hj' : j < y.data.toList.length := by simpa using hj
    rw [Lib.add_plain, Nat.zero_add]
    by_cases hjk : j = k
    · subst hjk
      rw [World.cell?_setCell_same _ _ _ (h j hj').1]
      simp
    · rw [World.cell?_setCell_other _ _ _ _ (fun e => hjk (congrArg Addr.off e).symm), (h j hj').1]
      rw [List.getElem_set_ne (by omega)])
  rw [List.length_set, len_size] at e
  exact e
theorem bits_xor_u8 (a b : Nat) (ha : a < 256) (hb : b < 256) : bits .xor .u8 (a : Int) (b : Int) = ((a ^^^ b : Nat) : Int) := by
  have hx : a ^^^ b < 2 ^ 8 := Nat.xor_lt_two_pow (by omega) (by omega)
  have h1 : (BitVec.ofInt 8 (a : Int)).toNat = a := by
    rw [BitVec.ofInt_natCast, BitVec.toNat_ofNat]; exact Nat.mod_eq_of_lt (by omega)
  have h2 : (BitVec.ofInt 8 (b : Int)).toNat = b := by
    rw [BitVec.ofInt_natCast, BitVec.toNat_ofNat]; exact Nat.mod_eq_of_lt (by omega)
  show IntKind.u8.wrap ((BitVec.ofInt 8 (a : Int) ^^^ BitVec.ofInt 8 (b : Int)).toNat : Int) = _
  rw [BitVec.toNat_xor, h1, h2, IntKind.wrap_u8]
  omega
theorem flip (a : UInt8) (d : Nat) (h0 : 0 < d) (h1 : d < 256) : ∃ c : UInt8, c ≠ a ∧ bits .xor .u8 (a.toNat : Int) (d : Int) = (c.toNat : Int) := by
  have ha := a.toNat_lt
  have hx : a.toNat ^^^ d < 2 ^ 8 := Nat.xor_lt_two_pow (by omega) (by omega)
  have e : (UInt8.ofNat (a.toNat ^^^ d)).toNat = a.toNat ^^^ d := by rw [UInt8.toNat_ofNat']; omega
  refine ⟨UInt8.ofNat (a.toNat ^^^ d), fun he => ?_, by rw [bits_xor_u8 _ _ (by omega) h1, e]⟩
  have h2 := congrArg UInt8.toNat he
  rw [e] at h2
  have h3 : a.toNat ^^^ (a.toNat ^^^ d) = d := by rw [← Nat.xor_assoc, Nat.xor_self, Nat.zero_xor]
  rw [h2, Nat.xor_self] at h3
  omega
theorem at_fix (A : Option Addr) (n c i : Nat) (w0 : World) (h : CodeRow w0.heap.size A n w0) (hn : n ≤ 65536) (hi : i ≤ 1000) :
    ∃ v : Nat, v < 256 ∧ ∀ W, Below w0.heap.size w0 W → Calls Tryd.prog 19 #[.slice A n c, .int .i64 i] W fun e w'' => e = .returned (.int .i64 v) ∧ w'' = W := by
  by_cases hlt : i < n
  · obtain ⟨a, b, rfl, hab, hb, hcell⟩ := h i hlt
    refine ⟨b, hb, fun W hW => ?_⟩
    have hblk : (a.add i).block = a.block := by unfold Addr.add; split <;> rfl
    have hc := (hW.cell (by rw [hblk]; exact hab)).trans hcell
    clear h hW hcell
    go_enter Tryd.func19, Tryd.ntmps19
    go_wp2
    go_ret
    exact ⟨rfl, rfl⟩
  · clear h
    refine ⟨(i * 7 + n) % 256, Nat.mod_lt _ (by omega), fun W _ => ?_⟩
    go_enter Tryd.func19, Tryd.ntmps19
    go_wp2
    go_ret
    exact ⟨by simp only [Int.natCast_emod, Int.natCast_add, Int.natCast_mul]; rfl, rfl⟩
theorem Pow10.below {w w' : World} (h : Pow10 w) (hb : Below w.heap.size w w') : Pow10 w' := tabIs_below h hb
end Go.Proofs.YtcnpbhbhklmifaaDoor
