/-
  Contracts of impl.FormatInt, strconv.Atoi, impl.ParseInt and spec.l1Read over this translation. Conditions: stated at each theorem.
-/
import Derived.Test.YtklbefdpfhidkaaDoorNr
import Derived.Test.YtklbefdpfhidkaaDoorShelf2
import Derived.Lib.AtoiErrMem
import Derived.Stop.LaidErr
import Derived.BigCall
import Derived.WalkKit
import Derived.Lib.Hide
import Derived.Deep.QuietTactic
import Derived.BigQuiet
import Derived.IntWalk
namespace Go.Proofs.YtklbefdpfhidkaaDoor
open Go.RowKit Go.Sort

/-! ### spec.l1In, impl.FormatInt -/
theorem in_yes (x a b : Int) (w : World) (h1 : a ≤ x) (h2 : x ≤ b) :
    Calls Tryd.prog 57 #[.int .i64 x, .int .i64 a, .int .i64 b] w fun e w' => e = .returned (.bool true) ∧ w = w' := by
  go_enter Tryd.func57, Tryd.ntmps57
  go_wp2
  go_ret
  exact ⟨rfl, rfl⟩
theorem in_low (x a b : Int) (w : World) (h1 : x < a) :
    Calls Tryd.prog 57 #[.int .i64 x, .int .i64 a, .int .i64 b] w fun e w' => e = .returned (.bool false) ∧ w = w' := by
  go_enter Tryd.func57, Tryd.ntmps57
  go_wp2
  go_ret
  exact ⟨rfl, rfl⟩
theorem in_high (x a b : Int) (w : World) (h0 : a ≤ x) (h1 : b < x) :
    Calls Tryd.prog 57 #[.int .i64 x, .int .i64 a, .int .i64 b] w fun e w' => e = .returned (.bool false) ∧ w = w' := by
  have hd : decide (x ≤ b) = false := by simpa using h1
  go_enter Tryd.func57, Tryd.ntmps57
  go_wp2
  go_ret
  exact ⟨rfl, rfl⟩

theorem fmt_impl_yes (n : Int) (w : World) (h0 : -999999 ≤ n) (h1 : n ≤ 999999) (ht : Pow10 w) :
    Calls Tryd.prog 56 #[.int .i64 n] w fun e w' => e = .returned (.tuple #[.string ⟨(Lib.itoa n).toArray⟩, .bool true]) ∧ Below w.heap.size w w' := by
  have HT := Lib.hid ht
  clear ht
  go_enter Tryd.func56, Tryd.ntmps56
  go_wp2_with (go_at_call 25; refine (Tryd.strconv_Itoa n (by omega) (by omega) _ HT.out).mono ?_; rintro e w' ⟨rfl, hb⟩; have HB := Lib.hid (below_itoa hb); clear hb)
  go_ret2
  exact ⟨rfl, HB.out⟩
theorem fmt_impl_no (n : Int) (w : World) (h : n < -999999 ∨ 999999 < n) :
    Calls Tryd.prog 56 #[.int .i64 n] w fun e w' => e = .returned (.tuple #[.string ⟨#[]⟩, .bool false]) ∧ w = w' := by
  rcases h with h | h
  · go_enter Tryd.func56, Tryd.ntmps56
    go_wp2
    go_ret2
    exact ⟨rfl, rfl⟩
  · have hd : ¬ n < -999999 := by omega
    go_enter Tryd.func56, Tryd.ntmps56
    go_wp2
    go_ret2
    exact ⟨rfl, rfl⟩

/-! ### strconv.Atoi -/
theorem var_below {w w' : World} {name : String} {x : Array Value} (h : w.var? Tryd.prog name = some x) (hb : Below w.heap.size w w') : w'.var? Tryd.prog name = some x := by
  unfold World.var? at *
  cases hg : Tryd.prog.globalNamed name with
  | none => simp [hg] at h
  | some g =>
    simp only [hg, Option.bind_some] at h ⊢
    have hlt : g < w.heap.size := by
      rcases Nat.lt_or_ge g w.heap.size with h' | h'
      · exact h'
      · rw [Array.getElem?_eq_none h'] at h; simp at h
    rw [hb.block g hlt]
    exact h
/-- The two errors hold a value of some type. -/
def Errs (w : World) : Prop := (∃ t p, w.var? Tryd.prog "strconv.ErrSyntax" = some #[.iface t p]) ∧ ∃ t p, w.var? Tryd.prog "strconv.ErrRange" = some #[.iface t p]
theorem Errs.below {w w' : World} (h : Errs w) (hb : Below w.heap.size w w') : Errs w' := by
  obtain ⟨⟨t, p, h1⟩, t2, p2, h2⟩ := h
  exact ⟨⟨t, p, var_below h1 hb⟩, t2, p2, var_below h2 hb⟩
theorem atoi_ok (s : ByteArray) (hs : s.size ≤ 1048576) (v : Int) (h : Lib.atoiAll s.data.toList = .ok v) (w : World) :
    Calls Tryd.prog 55 #[.string s] w fun e w' => e = .returned (.tuple #[.int .i64 v, .nilIface]) ∧ Below w.heap.size w w' := by
  refine (Tryd.strconv_Atoi_ok s (by omega) v h w).mono fun e w' ⟨he, hw⟩ => ⟨he, ?_⟩
  rcases hw with rfl | ⟨t, rfl⟩
  · exact Below.refl _ _
  · exact Lib.bytesWorld_below _ _ _
def BadPost (w : World) (e : Ending) (w' : World) : Prop := ∃ m N, e = .returned (.tuple #[.int .i64 m, .iface 103 (.pointer (some ⟨N, 0, none⟩))]) ∧ Below w.heap.size w w'
theorem atoi_bad (s : ByteArray) (hs : s.size ≤ 1048576) (h : ∀ v, Lib.atoiAll s.data.toList ≠ .ok v) (w : World) (hE : Errs w) :
    Calls Tryd.prog 55 #[.string s] w (BadPost w) := by
  obtain ⟨⟨t1, p1, h1⟩, t2, p2, h2⟩ := hE
  rcases hA : Lib.atoiAll s.data.toList with v | _ | _
  · exact absurd hA (h v)
  · exact (Any.strconv_Atoi_syntax_var Tryd.laysC172 s (by omega) hA t1 p1 w h1).mono fun e w' ⟨N, he, _, _, hb⟩ => ⟨_, N, he, hb⟩
  · exact (Any.strconv_Atoi_range_var Tryd.laysC172 s (by omega) hA t2 p2 w h2).mono fun e w' ⟨N, he, _, _, hb⟩ => ⟨_, N, he, hb⟩

/-! ### impl.ParseInt -/
theorem ba_of {l : List UInt8} {s : ByteArray} (h : l = s.data.toList) : (⟨l.toArray⟩ : ByteArray) = s := by
  apply ByteArray.ext
  apply Array.toList_inj.1
  simpa using h
theorem ba_not {l : List UInt8} {s : ByteArray} (h : l ≠ s.data.toList) : (l == s.toList) = false := by
  refine beq_eq_false_iff_ne.2 fun e => h ?_
  rwa [ByteArray.toList_eq] at e
set_option maxHeartbeats 400000 in
theorem parse_impl_yes (s : ByteArray) (n : Int) (h : Num s n) (hs : s.size ≤ 1048576) (w : World) (ht : Pow10 w) :
    Calls Tryd.prog 27 #[.string s] w fun e w' => e = .returned (.tuple #[.int .i64 n, .bool true]) ∧ Below w.heap.size w w' := by
  obtain ⟨h0, h1, h2⟩ := h
  have hA : Lib.atoiAll s.data.toList = .ok n := by rw [← h2]; exact atoi_itoa n h0 h1
  have HA := Lib.hid (fun W : World => atoi_ok s hs n hA W)
  have HF := Lib.hid (fun (W : World) (hp : Pow10 W) => fmt_impl_yes n W h0 h1 hp)
  have HT := Lib.hid ht
  have heq := ba_of h2
  clear h2 hA ht
  go_enter Tryd.func27, Tryd.ntmps27
  go_wp2_with (first
    | (go_at_call 55; refine (HA.out _).mono ?_; rintro e w1 ⟨rfl, hb⟩; have HB := Lib.hid hb; clear hb)
    | (go_at_call 56; refine (HF.out _ (by exact tabIs_below HT.out HB.out)).mono ?_; rintro e w2 ⟨rfl, hb⟩; have HB2 := Lib.hid (HB.out.trans (hb.mono HB.out.size)); clear hb))
  go_ret2
  exact ⟨rfl, HB2.out⟩
set_option maxHeartbeats 400000 in
theorem parse_impl_no (s : ByteArray) (h : ∀ n, ¬ Num s n) (hs : s.size ≤ 1048576) (w : World) (ht : Pow10 w) (hE : Errs w) :
    Calls Tryd.prog 27 #[.string s] w fun e w' => e = .returned (.tuple #[.int .i64 0, .bool false]) ∧ Below w.heap.size w w' := by
  by_cases hA : ∃ v, Lib.atoiAll s.data.toList = .ok v
  · obtain ⟨v, hA⟩ := hA
    have HA := Lib.hid (fun W : World => atoi_ok s hs v hA W)
    have HT := Lib.hid ht
    by_cases hv : -999999 ≤ v ∧ v ≤ 999999
    · have hne := ba_not (fun e => h v ⟨hv.1, hv.2, e⟩)
      have HF := Lib.hid (fun (W : World) (hp : Pow10 W) => fmt_impl_yes v W hv.1 hv.2 hp)
      clear hA ht hE h hv
      go_enter Tryd.func27, Tryd.ntmps27
      go_wp2_with (first
        | (go_at_call 55; refine (HA.out _).mono ?_; rintro e w1 ⟨rfl, hb⟩; have HB := Lib.hid hb; clear hb)
        | (go_at_call 56; refine (HF.out _ (by exact tabIs_below HT.out HB.out)).mono ?_; rintro e w2 ⟨rfl, hb⟩; have HB2 := Lib.hid (HB.out.trans (hb.mono HB.out.size)); clear hb))
      go_ret2
      exact ⟨rfl, HB2.out⟩
    · have HF := Lib.hid (fun (W : World) => fmt_impl_no v W (by omega))
      clear hA ht hE h hv
      go_enter Tryd.func27, Tryd.ntmps27
      go_wp2_with (first
        | (go_at_call 55; refine (HA.out _).mono ?_; rintro e w1 ⟨rfl, hb⟩; have HB := Lib.hid hb; clear hb)
        | (go_at_call 56; refine (HF.out _).mono ?_; rintro e w2 ⟨rfl, rfl⟩))
      go_ret2
      exact ⟨rfl, HB.out⟩
  · have HA := Lib.hid (fun (W : World) (hW : Errs W) => atoi_bad s hs (fun v e => hA ⟨v, e⟩) W hW)
    have HE := Lib.hid hE
    clear hA ht hE h
    go_enter Tryd.func27, Tryd.ntmps27
    go_wp2_with (go_at_call 55; refine (HA.out _ HE.out).mono ?_; rintro e w1 ⟨m, N, rfl, hb⟩; have HB := Lib.hid hb; clear hb)
    go_ret2
    exact ⟨rfl, HB.out⟩

/-! ### spec.l1Read -/
/-- What spec.l1Read hands back. -/
def ReadPost (s : ByteArray) (w : World) (e : Ending) (w' : World) : Prop :=
  (∃ k, w' = w.drewN k) ∧ ((∃ n, Num s n ∧ e = .returned (.tuple #[.int .i64 n, .bool true])) ∨ ((∀ n, ¬ Num s n) ∧ e = .returned (.tuple #[.int .i64 0, .bool false])))
/-- The text behind the sign is U; f puts the sign to its value. -/
def Tail (s U : ByteArray) (f : Int → Int) : Prop := ∀ n, Num s n → ∃ u : Nat, u ≤ 999999 ∧ n = f u ∧ U.data.toList = Lib.decDigits u
theorem ba_len (s : ByteArray) : s.data.toList.length = s.size := Array.length_toList
theorem ba_at (s : ByteArray) (k : Nat) (h : k < s.size) : s.data.toList[k]? = some s[k] := by
  rw [List.getElem?_eq_getElem (by rw [ba_len]; exact h)]; rfl
theorem tail_len {s U : ByteArray} {f : Int → Int} (h : Tail s U f) (hl : ¬ (1 ≤ U.size ∧ U.size ≤ 6)) : ∀ n, ¬ Num s n := by
  intro n hn
  obtain ⟨u, hu, _, ht⟩ := h n hn
  obtain ⟨a, b, _, _⟩ := digits_form u hu
  rw [← ht, ba_len] at a b
  exact hl ⟨a, b⟩
theorem tail_dig {s U : ByteArray} {f : Int → Int} (h : Tail s U f) (k : Nat) (hk : k < U.size) (hl : ¬ isDig U[k]) : ∀ n, ¬ Num s n := by
  intro n hn
  obtain ⟨u, hu, _, ht⟩ := h n hn
  obtain ⟨_, _, c, _⟩ := digits_form u hu
  exact hl (c _ (by rw [← ht]; exact List.mem_of_getElem? (ba_at U k hk)))
theorem tail_val {s U : ByteArray} {f : Int → Int} (h : Tail s U f) (hl : Lib.itoa (f (val U.data.toList)) ≠ s.data.toList) : ∀ n, ¬ Num s n := by
  intro n hn
  obtain ⟨u, hu, hf, ht⟩ := h n hn
  obtain ⟨_, _, _, d⟩ := digits_form u hu
  rw [ht, d, ← hf] at hl
  exact hl hn.2.2
theorem tail_neg {s U : ByteArray} (h1 : 0 < s.size) (h45 : s[0] = 45) (hT : s.extract 1 s.size = U) : Tail s U (fun x => -x) := by
  intro n hn
  have e : s.data.toList = 45 :: U.data.toList := by
    have h2 := ba_at s 0 h1
    rw [h45] at h2
    rw [← hT, Lib.extract_to_end]
    match hl : s.data.toList with
    | [] => rw [hl] at h2; simp at h2
    | c :: r => rw [hl] at h2; simp at h2; rw [h2]; simp
  exact hn.neg e
theorem tail_pos {s : ByteArray} (h : s.size ≤ 1 ∨ ∃ h0 : 0 < s.size, s[0] ≠ 45) : Tail s s (fun x => x) := by
  intro n hn
  refine hn.pos ?_
  rcases h with h | ⟨h0, h⟩
  · left; rw [ba_len]; exact h
  · right; rw [ba_at s 0 h0]; intro e; exact h (Option.some.inj e)

theorem take_snoc (s : ByteArray) (k : Nat) (h : k < s.size) : s.data.toList.take (k + 1) = s.data.toList.take k ++ [s[k]] := by
  rw [List.take_succ_eq_append_getElem (by simpa using h)]; rfl
set_option maxHeartbeats 1600000 in
theorem read_neg (s U : ByteArray) (w : World) (hs : s.size ≤ 1048576) (h1 : 1 < s.size) (h45 : s[0] = 45) (hT : s.extract 1 s.size = U) (hz : U.size + 1 = s.size) :
    Calls Tryd.prog 39 #[.string s] w (ReadPost s w) := by
  have hd : ((s[0].toNat : Int) == 45) = true := by rw [h45]; rfl
  have HK := Lib.hid (tail_neg (by omega) h45 hT)
  clear h45
  by_cases hl : 1 ≤ U.size ∧ U.size ≤ 6
  · obtain ⟨hl1, hl6⟩ := hl
    go_enter Tryd.func39, Tryd.ntmps39
    go_wp2_with (go_at_call 57; refine (in_yes _ _ _ _ (by omega) (by omega)).mono ?_; rintro e w' ⟨rfl, rfl⟩)
    go_loop [5, 6] (fun n i => ∃ k : Nat, k ≤ U.size ∧ i = .int .i64 k ∧ n = .int .i64 (val (U.data.toList.take k)) ∧ Hid (∀ c ∈ U.data.toList.take k, isDig c)) (fun _ i => U.size - (intOf i).toNat)
    case atStart => exact ⟨0, Nat.zero_le _, rfl, rfl, fun c hc => by simp at hc⟩
    case round =>
      obtain ⟨k, hk, rfl, rfl, hall⟩ := hrel
      obtain ⟨hd1, hd2⟩ := val_bd (U.data.toList.take k) hall.out (by rw [List.length_take]; omega)
      by_cases hlt : k < U.size
      · by_cases hdg : isDig U[k]
        · have HS : Hid (val (U.data.toList.take (k + 1)) = 10 * val (U.data.toList.take k) + ((U[k].toNat : Int) - 48)) := by rw [take_snoc U k hlt]; exact val_snoc _ _
          have HA : Hid (∀ c ∈ U.data.toList.take (k + 1), isDig c) := by
            rw [take_snoc U k hlt]
            intro c hc
            rcases List.mem_append.1 hc with hc | hc
            · exact hall.out c hc
            · rw [List.mem_singleton.1 hc]; exact hdg
          obtain ⟨hx1, hx2⟩ := hdg
          have hx3 : IntKind.u8.wrap ((U[k].toNat : Int) - 48) = (U[k].toNat : Int) - 48 := by rw [IntKind.wrap_u8]; omega
          go_wp2
          go_round
          case rel => exact ⟨k + 1, by omega, by go_num, by rw [HS.out], HA⟩
          case measure => simp [intOf]; omega
        · have HN := Lib.hid (tail_dig HK.out k hlt hdg)
          by_cases hx : U[k].toNat < 48
          · clear hdg
            go_wp2
            go_ret2
            exact ⟨⟨0, by rw [World.drewN_zero]⟩, .inr ⟨HN.out, rfl⟩⟩
          · have hx2 : 57 < U[k].toNat := by unfold isDig at hdg; omega
            clear hdg
            go_wp2
            go_ret2
            exact ⟨⟨0, by rw [World.drewN_zero]⟩, .inr ⟨HN.out, rfl⟩⟩
      · obtain rfl : k = U.size := by omega
        have hv := Lib.hid (show val (U.data.toList.take U.size) = val U.data.toList by rw [List.take_of_length_le (by rw [ba_len]; exact Nat.le_refl _)])
        rw [hv.out] at hd1 hd2 ⊢
        clear hall hv
        have HM := Lib.hid (fun W : World => num_any (-(val U.data.toList)) W (by omega) (by omega))
        by_cases heq : Lib.itoa (-(val U.data.toList)) = s.data.toList
        · have hNum : Num s (-(val U.data.toList)) := ⟨by omega, by omega, heq⟩
          have HNum := Lib.hid hNum
          have hba := ba_of heq
          clear heq hNum
          go_wp2_with (go_at_call 60; refine (HM.out _).mono ?_; rintro e w1 ⟨rfl, k, rfl⟩)
          go_ret2
          exact ⟨⟨_, rfl⟩, .inl ⟨_, HNum.out, rfl⟩⟩
        · have hba := ba_not heq
          have HN := Lib.hid (tail_val HK.out heq)
          clear heq
          go_wp2_with (go_at_call 60; refine (HM.out _).mono ?_; rintro e w1 ⟨rfl, k, rfl⟩)
          go_ret2
          exact ⟨⟨_, rfl⟩, .inr ⟨HN.out, rfl⟩⟩
  · have HN := Lib.hid (tail_len HK.out hl)
    have hc : ∀ W : World, Calls Tryd.prog 57 #[.int .i64 U.size, .int .i64 1, .int .i64 6] W fun e w' => e = .returned (.bool false) ∧ W = w' := fun W => by
      by_cases h0 : U.size < 1
      · exact in_low _ _ _ _ (by omega)
      · exact in_high _ _ _ _ (by omega) (by omega)
    have HC := Lib.hid hc
    clear hc hl
    go_enter Tryd.func39, Tryd.ntmps39
    go_wp2_with (go_at_call 57; refine (HC.out _).mono ?_; rintro e w' ⟨rfl, rfl⟩)
    go_ret2
    exact ⟨⟨0, by rw [World.drewN_zero]⟩, .inr ⟨HN.out, rfl⟩⟩

set_option maxHeartbeats 1600000 in
theorem read_short (s : ByteArray) (w : World) (hs : s.size ≤ 1) :
    Calls Tryd.prog 39 #[.string s] w (ReadPost s w) := by
  have HK := Lib.hid (tail_pos (s := s) (.inl hs))
  by_cases hl : 1 ≤ s.size ∧ s.size ≤ 6
  · obtain ⟨hl1, hl6⟩ := hl
    go_enter Tryd.func39, Tryd.ntmps39
    go_wp2_with (go_at_call 57; refine (in_yes _ _ _ _ (by omega) (by omega)).mono ?_; rintro e w' ⟨rfl, rfl⟩)
    go_loop [5, 6] (fun n i => ∃ k : Nat, k ≤ s.size ∧ i = .int .i64 k ∧ n = .int .i64 (val (s.data.toList.take k)) ∧ Hid (∀ c ∈ s.data.toList.take k, isDig c)) (fun _ i => s.size - (intOf i).toNat)
    case atStart => exact ⟨0, Nat.zero_le _, rfl, rfl, fun c hc => by simp at hc⟩
    case round =>
      obtain ⟨k, hk, rfl, rfl, hall⟩ := hrel
      obtain ⟨hd1, hd2⟩ := val_bd (s.data.toList.take k) hall.out (by rw [List.length_take]; omega)
      by_cases hlt : k < s.size
      · by_cases hdg : isDig s[k]
        · have HS : Hid (val (s.data.toList.take (k + 1)) = 10 * val (s.data.toList.take k) + ((s[k].toNat : Int) - 48)) := by rw [take_snoc s k hlt]; exact val_snoc _ _
          have HA : Hid (∀ c ∈ s.data.toList.take (k + 1), isDig c) := by
            rw [take_snoc s k hlt]
            intro c hc
            rcases List.mem_append.1 hc with hc | hc
            · exact hall.out c hc
            · rw [List.mem_singleton.1 hc]; exact hdg
          obtain ⟨hx1, hx2⟩ := hdg
          have hx3 : IntKind.u8.wrap ((s[k].toNat : Int) - 48) = (s[k].toNat : Int) - 48 := by rw [IntKind.wrap_u8]; omega
          go_wp2
          go_round
          case rel => exact ⟨k + 1, by omega, by go_num, by rw [HS.out], HA⟩
          case measure => simp [intOf]; omega
        · have HN := Lib.hid (tail_dig HK.out k hlt hdg)
          by_cases hx : s[k].toNat < 48
          · clear hdg
            go_wp2
            go_ret2
            exact ⟨⟨0, by rw [World.drewN_zero]⟩, .inr ⟨HN.out, rfl⟩⟩
          · have hx2 : 57 < s[k].toNat := by unfold isDig at hdg; omega
            clear hdg
            go_wp2
            go_ret2
            exact ⟨⟨0, by rw [World.drewN_zero]⟩, .inr ⟨HN.out, rfl⟩⟩
      · obtain rfl : k = s.size := by omega
        have hv := Lib.hid (show val (s.data.toList.take s.size) = val s.data.toList by rw [List.take_of_length_le (by rw [ba_len]; exact Nat.le_refl _)])
        rw [hv.out] at hd1 hd2 ⊢
        clear hall hv
        have HM := Lib.hid (fun W : World => num_any (val s.data.toList) W (by omega) (by omega))
        by_cases heq : Lib.itoa (val s.data.toList) = s.data.toList
        · have hNum : Num s (val s.data.toList) := ⟨by omega, by omega, heq⟩
          have HNum := Lib.hid hNum
          have hba := ba_of heq
          clear heq hNum
          go_wp2_with (go_at_call 60; refine (HM.out _).mono ?_; rintro e w1 ⟨rfl, k, rfl⟩)
          go_ret2
          exact ⟨⟨_, rfl⟩, .inl ⟨_, HNum.out, rfl⟩⟩
        · have hba := ba_not heq
          have HN := Lib.hid (tail_val HK.out heq)
          clear heq
          go_wp2_with (go_at_call 60; refine (HM.out _).mono ?_; rintro e w1 ⟨rfl, k, rfl⟩)
          go_ret2
          exact ⟨⟨_, rfl⟩, .inr ⟨HN.out, rfl⟩⟩
  · have HN := Lib.hid (tail_len HK.out hl)
    have hc : ∀ W : World, Calls Tryd.prog 57 #[.int .i64 s.size, .int .i64 1, .int .i64 6] W fun e w' => e = .returned (.bool false) ∧ W = w' := fun W => by
      by_cases h0 : s.size < 1
      · exact in_low _ _ _ _ (by omega)
      · exact in_high _ _ _ _ (by omega) (by omega)
    have HC := Lib.hid hc
    clear hc hl
    go_enter Tryd.func39, Tryd.ntmps39
    go_wp2_with (go_at_call 57; refine (HC.out _).mono ?_; rintro e w' ⟨rfl, rfl⟩)
    go_ret2
    exact ⟨⟨0, by rw [World.drewN_zero]⟩, .inr ⟨HN.out, rfl⟩⟩

set_option maxHeartbeats 1600000 in
theorem read_pos (s : ByteArray) (w : World) (hs : s.size ≤ 1048576) (h1 : 1 < s.size) (h45 : s[0] ≠ 45) :
    Calls Tryd.prog 39 #[.string s] w (ReadPost s w) := by
  have hd : ((s[0].toNat : Int) == 45) = false := by
    have : s[0].toNat ≠ 45 := fun e => h45 (UInt8.toNat_inj.1 e)
    exact beq_eq_false_iff_ne.2 (by omega)
  have HK := Lib.hid (tail_pos (s := s) (.inr ⟨by omega, h45⟩))
  clear h45
  by_cases hl : 1 ≤ s.size ∧ s.size ≤ 6
  · obtain ⟨hl1, hl6⟩ := hl
    go_enter Tryd.func39, Tryd.ntmps39
    go_wp2_with (go_at_call 57; refine (in_yes _ _ _ _ (by omega) (by omega)).mono ?_; rintro e w' ⟨rfl, rfl⟩)
    go_loop [5, 6] (fun n i => ∃ k : Nat, k ≤ s.size ∧ i = .int .i64 k ∧ n = .int .i64 (val (s.data.toList.take k)) ∧ Hid (∀ c ∈ s.data.toList.take k, isDig c)) (fun _ i => s.size - (intOf i).toNat)
    case atStart => exact ⟨0, Nat.zero_le _, rfl, rfl, fun c hc => by simp at hc⟩
    case round =>
      obtain ⟨k, hk, rfl, rfl, hall⟩ := hrel
      obtain ⟨hd1, hd2⟩ := val_bd (s.data.toList.take k) hall.out (by rw [List.length_take]; omega)
      by_cases hlt : k < s.size
      · by_cases hdg : isDig s[k]
        · have HS : Hid (val (s.data.toList.take (k + 1)) = 10 * val (s.data.toList.take k) + ((s[k].toNat : Int) - 48)) := by rw [take_snoc s k hlt]; exact val_snoc _ _
          have HA : Hid (∀ c ∈ s.data.toList.take (k + 1), isDig c) := by
            rw [take_snoc s k hlt]
            intro c hc
            rcases List.mem_append.1 hc with hc | hc
            · exact hall.out c hc
            · rw [List.mem_singleton.1 hc]; exact hdg
          obtain ⟨hx1, hx2⟩ := hdg
          have hx3 : IntKind.u8.wrap ((s[k].toNat : Int) - 48) = (s[k].toNat : Int) - 48 := by rw [IntKind.wrap_u8]; omega
          go_wp2
          go_round
          case rel => exact ⟨k + 1, by omega, by go_num, by rw [HS.out], HA⟩
          case measure => simp [intOf]; omega
        · have HN := Lib.hid (tail_dig HK.out k hlt hdg)
          by_cases hx : s[k].toNat < 48
          · clear hdg
            go_wp2
            go_ret2
            exact ⟨⟨0, by rw [World.drewN_zero]⟩, .inr ⟨HN.out, rfl⟩⟩
          · have hx2 : 57 < s[k].toNat := by unfold isDig at hdg; omega
            clear hdg
            go_wp2
            go_ret2
            exact ⟨⟨0, by rw [World.drewN_zero]⟩, .inr ⟨HN.out, rfl⟩⟩
      · obtain rfl : k = s.size := by omega
        have hv := Lib.hid (show val (s.data.toList.take s.size) = val s.data.toList by rw [List.take_of_length_le (by rw [ba_len]; exact Nat.le_refl _)])
        rw [hv.out] at hd1 hd2 ⊢
        clear hall hv
        have HM := Lib.hid (fun W : World => num_any (val s.data.toList) W (by omega) (by omega))
        by_cases heq : Lib.itoa (val s.data.toList) = s.data.toList
        · have hNum : Num s (val s.data.toList) := ⟨by omega, by omega, heq⟩
          have HNum := Lib.hid hNum
          have hba := ba_of heq
          clear heq hNum
          go_wp2_with (go_at_call 60; refine (HM.out _).mono ?_; rintro e w1 ⟨rfl, k, rfl⟩)
          go_ret2
          exact ⟨⟨_, rfl⟩, .inl ⟨_, HNum.out, rfl⟩⟩
        · have hba := ba_not heq
          have HN := Lib.hid (tail_val HK.out heq)
          clear heq
          go_wp2_with (go_at_call 60; refine (HM.out _).mono ?_; rintro e w1 ⟨rfl, k, rfl⟩)
          go_ret2
          exact ⟨⟨_, rfl⟩, .inr ⟨HN.out, rfl⟩⟩
  · have HN := Lib.hid (tail_len HK.out hl)
    have hc : ∀ W : World, Calls Tryd.prog 57 #[.int .i64 s.size, .int .i64 1, .int .i64 6] W fun e w' => e = .returned (.bool false) ∧ W = w' := fun W => by
      by_cases h0 : s.size < 1
      · exact in_low _ _ _ _ (by omega)
      · exact in_high _ _ _ _ (by omega) (by omega)
    have HC := Lib.hid hc
    clear hc hl
    go_enter Tryd.func39, Tryd.ntmps39
    go_wp2_with (go_at_call 57; refine (HC.out _).mono ?_; rintro e w' ⟨rfl, rfl⟩)
    go_ret2
    exact ⟨⟨0, by rw [World.drewN_zero]⟩, .inr ⟨HN.out, rfl⟩⟩
theorem read_any (s : ByteArray) (w : World) (hs : s.size ≤ 1048576) : Calls Tryd.prog 39 #[.string s] w (ReadPost s w) := by
  by_cases h1 : 1 < s.size
  · by_cases h45 : s[0] = 45
    · refine read_neg s (s.extract 1 s.size) w hs h1 h45 rfl ?_
      rw [ByteArray.size_extract]; omega
    · exact read_pos s w hs h1 h45
  · exact read_short s w (by omega)
theorem read_yes (s : ByteArray) (n : Int) (h : Num s n) (w : World) (hs : s.size ≤ 1048576) :
    Calls Tryd.prog 39 #[.string s] w fun e w' => e = .returned (.tuple #[.int .i64 n, .bool true]) ∧ ∃ k, w' = w.drewN k := by
  refine (read_any s w hs).mono fun e w' ⟨hk, hr⟩ => ⟨?_, hk⟩
  rcases hr with ⟨m, hm, he⟩ | ⟨hn, _⟩
  · rw [he, hm.unique h]
  · exact absurd h (hn n)
theorem read_no (s : ByteArray) (h : ∀ n, ¬ Num s n) (w : World) (hs : s.size ≤ 1048576) :
    Calls Tryd.prog 39 #[.string s] w fun e w' => e = .returned (.tuple #[.int .i64 0, .bool false]) ∧ ∃ k, w' = w.drewN k := by
  refine (read_any s w hs).mono fun e w' ⟨hk, hr⟩ => ⟨?_, hk⟩
  rcases hr with ⟨m, hm, _⟩ | ⟨_, he⟩
  · exact absurd hm (h m)
  · exact he
end Go.Proofs.YtklbefdpfhidkaaDoor
