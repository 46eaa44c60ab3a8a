/-
  Contracts of spec.JoinStrings and impl.JoinStrings over this translation. Conditions: stated at each theorem.
-/
import Derived.Test.YtcnpbhbhklmifaaRowsOf
import Derived.Lib.Join
namespace Go.Proofs.Ytcnpbhbhklmifaa
open Go.RowKit Go.Sort

/-- The texts as lists of bytes. -/
def bytesOf (xs : List ByteArray) : List (List UInt8) := xs.map (·.data.toList)
/-- The first k texts, joined by the byte b. -/
def joinK (b : UInt8) (xs : List ByteArray) (k : Nat) : ByteArray := ⟨(Lib.join (bytesOf (xs.take k)) [b]).toArray⟩
theorem lens_tot (xs : List ByteArray) : Lib.lens (bytesOf xs) = tot xs := by
  unfold Lib.lens bytesOf tot
  rw [List.map_map]
  congr 1
theorem join_len (b : UInt8) (xs : List ByteArray) (h : xs ≠ []) : (Lib.join (bytesOf xs) [b]).length = xs.length - 1 + tot xs := by
  match xs, h with
  | x :: r, _ =>
    have := Lib.join_length x.data.toList (bytesOf r) [b]
    have e : bytesOf (x :: r) = x.data.toList :: bytesOf r := rfl
    rw [← e, lens_tot] at this
    rw [e] at this
    rw [e, this]
    simp [bytesOf]
theorem joinK_size (b : UInt8) (xs : List ByteArray) (k : Nat) (h0 : 0 < k) (hk : k ≤ xs.length) : (joinK b xs k).size = k - 1 + tot (xs.take k) := by
  have h1 : (xs.take k).length = k := by rw [List.length_take]; omega
  have h2 : xs.take k ≠ [] := fun e => by rw [e] at h1; simp at h1; omega
  have := join_len b (xs.take k) h2
  show (Lib.join (bytesOf (xs.take k)) [b]).toArray.size = _
  rw [List.size_toArray, this, h1]
theorem joinK_zero (b : UInt8) (xs : List ByteArray) : joinK b xs 0 = ⟨#[]⟩ := rfl
theorem joinK_first (b : UInt8) (xs : List ByteArray) (h : 0 < xs.length) : joinK b xs 1 = xs[0] := by
  match xs, h with
  | x :: r, _ =>
    apply ByteArray.ext
    apply Array.toList_inj.1
    simp [joinK, bytesOf, Lib.join_one]
theorem joinK_succ (b : UInt8) (xs : List ByteArray) (k : Nat) (h0 : 0 < k) (hk : k < xs.length) : joinK b xs (k + 1) = joinK b xs k ++ ⟨#[b]⟩ ++ xs[k] := by
  match xs, hk with
  | x :: r, hk =>
    obtain ⟨j, rfl⟩ : ∃ j, k = j + 1 := ⟨k - 1, by omega⟩
    have hj : j < r.length := by simpa using hk
    apply ByteArray.ext
    apply Array.toList_inj.1
    have e1 : bytesOf ((x :: r).take (j + 1 + 1)) = x.data.toList :: (bytesOf r).take (j + 1) := by simp [bytesOf, List.map_take]
    have e2 : bytesOf ((x :: r).take (j + 1)) = x.data.toList :: (bytesOf r).take j := by simp [bytesOf, List.map_take]
    have h := Lib.joinTail_take_succ [b] (bytesOf r) j r[j].data.toList (by simp [bytesOf, hj])
    simp only [joinK, e1, e2, Lib.join_cons, h, ByteArray.data_append, Array.toList_append, List.getElem_cons_succ]
    simp [List.append_assoc]
/-- The lists that JoinStrings joins: none holds the byte, and the whole has at most 4000 bytes. -/
def Joinable (b : UInt8) (xs : List ByteArray) : Prop := (∀ x ∈ xs, b ∉ x.data.toList) ∧ xs.length - 1 + tot xs ≤ 4000
/-- The whole. -/
def joinAll (b : UInt8) (xs : List ByteArray) : ByteArray := joinK b xs xs.length
/-- What JoinStrings hands back. -/
def JoinPost (b : UInt8) (xs : List ByteArray) (w : World) (e : Ending) (w' : World) : Prop :=
  (∃ k, w' = w.drewN k) ∧ ((Joinable b xs ∧ e = .returned (.tuple #[.string (joinAll b xs), .bool true])) ∨ (¬ Joinable b xs ∧ e = .returned (.tuple #[.string ⟨#[]⟩, .bool false])))

/-! ### spec.JoinStrings -/
theorem jspec_sep (A : Option Addr) (n c : Nat) (sep : ByteArray) (w : World) (h : ((sep.size : Int) == 1) = false) :
    Calls Try.prog 13 #[.slice A n c, .string sep] w fun e w' => e = .returned (.tuple #[.string ⟨#[]⟩, .bool false]) ∧ w = w' := by
  go_enter Try.func13, Try.ntmps13
  go_wp2
  go_ret2
  exact ⟨rfl, rfl⟩
theorem jspec_zero (A : Option Addr) (c : Nat) (b : UInt8) (w : World) :
    Calls Try.prog 13 #[.slice A 0 c, .string ⟨#[b]⟩] w fun e w' => e = .returned (.tuple #[.string ⟨#[]⟩, .bool false]) ∧ w = w' := by
  go_enter Try.func13, Try.ntmps13
  go_wp2
  go_ret2
  exact ⟨rfl, rfl⟩
theorem stands_yes' (s : ByteArray) (b : UInt8) (n : Int) (hn : n = (b.toNat : Int)) (w : World) (hs : s.size ≤ 1048576) (hm : b ∈ s.data.toList) :
    Calls Try.prog 33 #[.string s, .int .u8 n] w fun e w' => e = .returned (.bool true) ∧ w' = w :=
  (stands_yes s b n hn w hs hm).mono fun _ _ ⟨h1, h2⟩ => ⟨h1, h2.symm⟩
theorem stands_no' (s : ByteArray) (b : UInt8) (n : Int) (hn : n = (b.toNat : Int)) (w : World) (hs : s.size ≤ 1048576) (hm : b ∉ s.data.toList) :
    Calls Try.prog 33 #[.string s, .int .u8 n] w fun e w' => e = .returned (.bool false) ∧ w' = w :=
  (stands_no s b n hn w hs hm).mono fun _ _ ⟨h1, h2⟩ => ⟨h1, h2.symm⟩
/-- The first k texts with one byte more behind them. -/
def midK (b : UInt8) (xs : List ByteArray) (k : Nat) : ByteArray := joinK b xs k ++ ⟨#[b]⟩
theorem add_mid (b : UInt8) (xs : List ByteArray) (k : Nat) (h : (joinK b xs k).size ≤ 4000) (w : World) : (Op.stringOp .add (joinK b xs k) ⟨#[b]⟩).run Try.prog w = .ok (.string (midK b xs k)) w := by
  have e : (⟨#[b]⟩ : ByteArray).size = 1 := rfl
  rw [run_string_add_sum w _ _ (by rw [e]; omega)]
  rfl
theorem add_next (b : UInt8) (xs : List ByteArray) (k : Nat) (h0 : 0 < k) (hk : k < xs.length) (h : (joinK b xs k).size ≤ 4000) (hx : xs[k].size ≤ 1048576) (w : World) :
    (Op.stringOp .add (midK b xs k) xs[k]).run Try.prog w = .ok (.string (joinK b xs (k + 1))) w := by
  have e : (midK b xs k).size = (joinK b xs k).size + 1 := by
    show (joinK b xs k ++ (⟨#[b]⟩ : ByteArray)).size = _
    rw [ByteArray.size_append]; rfl
  rw [run_string_add_sum w _ _ (by rw [e]; omega), joinK_succ b xs k h0 hk]
  rfl
theorem add_first (b : UInt8) (xs : List ByteArray) (hk : 0 < xs.length) (hx : xs[0].size ≤ 1048576) (w : World) :
    (Op.stringOp .add (joinK b xs 0) xs[0]).run Try.prog w = .ok (.string (joinK b xs 1)) w := by
  have e : (joinK b xs 0).size = 0 := rfl
  rw [run_string_add_sum w _ _ (by rw [e]; omega), joinK_first b xs hk, joinK_zero]
  have e2 : (⟨#[]⟩ : ByteArray) ++ xs[0] = xs[0] := by
    apply ByteArray.ext
    simp
  rw [e2]
theorem not_hold {b : UInt8} {xs : List ByteArray} (k : Nat) (hk : k < xs.length) (h : b ∈ xs[k].data.toList) : ¬ Joinable b xs := fun hj => hj.1 _ (List.getElem_mem hk) h
theorem not_long {b : UInt8} {xs : List ByteArray} (k : Nat) (hk : k < xs.length) (h : 4000 < (joinK b xs (k + 1)).size) : ¬ Joinable b xs := fun hj => by
  have h1 := joinK_size b xs (k + 1) (by omega) (by omega)
  have h2 := tot_take_le xs (k + 1)
  have h3 := hj.2
  omega
set_option maxHeartbeats 1600000 in
theorem jspec_any (g o c : Nat) (b : UInt8) (xs : List ByteArray) (w : World) (hc : Cells w g o xs) (hn : xs.length + tot xs ≤ 1048576) (h0 : 0 < xs.length) :
    Calls Try.prog 13 #[.slice (some ⟨g, o, none⟩) xs.length c, .string ⟨#[b]⟩] w (JoinPost b xs w) := by
  have hne : ((xs.length : Int) == 0) = false := beq_eq_false_iff_ne.2 (by omega)
  go_enter Try.func13, Try.ntmps13
  go_wp2
  clear hne
  go_loopw [6, 7] (fun s i wr => ∃ k : Nat, k ≤ xs.length ∧ i = .int .i64 k ∧ s = .string (joinK b xs k) ∧ (joinK b xs k).size ≤ 4000 ∧ Hid (∀ x ∈ xs.take k, b ∉ x.data.toList) ∧ Hid (∃ d, wr = w.drewN d)) (fun _ i _ => xs.length - (intOf i).toNat)
  case atStart => exact ⟨0, Nat.zero_le _, rfl, rfl, Nat.zero_le _, by simp [Hid], 0, by rw [World.drewN_zero]⟩
  case round =>
    obtain ⟨k, hk, rfl, rfl, hsz, hall, hwr⟩ := hrel
    have HW := Lib.hid (fun nq : Nat => show ∃ d, wr.drewN nq = w.drewN d from by obtain ⟨d, rfl⟩ := hwr.out; exact ⟨d + nq, World.drewN_drewN _ _ _⟩)
    by_cases hlt : k < xs.length
    · have hcell : wr.cell? ⟨g, o + k, none⟩ = some (.string xs[k]) := by obtain ⟨d, rfl⟩ := hwr.out; exact hc.at_ k hlt
      have hx : xs[k].size ≤ 1048576 := by have := le_tot xs k hlt; omega
      by_cases hm : b ∈ xs[k].data.toList
      · have HN := Lib.hid (not_hold k hlt hm)
        have HM := Lib.hid (fun (n : Int) (hn : n = (b.toNat : Int)) (W : World) => stands_yes' xs[k] b n hn W hx hm)
        clear hm hall
        go_wp2_with fail
        go_quiet ((go_at_call 33; exact Calls.quiet_of_same (HM.out _ (by rfl) _)))
        go_wp2
        go_ret2
        exact ⟨HW.out _, .inr ⟨HN.out, rfl⟩⟩
      · have HM := Lib.hid (fun (n : Int) (hn : n = (b.toNat : Int)) (W : World) => stands_no' xs[k] b n hn W hx hm)
        have HA : Hid (∀ x ∈ xs.take (k + 1), b ∉ x.data.toList) := by
          rw [List.take_succ_eq_append_getElem hlt]
          intro x hx
          rcases List.mem_append.1 hx with hx | hx
          · exact hall.out x hx
          · rw [List.mem_singleton.1 hx]; exact hm
        have HL := Lib.hid (fun h : 4000 < (joinK b xs (k + 1)).size => not_long k hlt h)
        clear hm hall
        by_cases hk0 : k = 0
        · subst hk0
          have hcell0 : wr.cell? ⟨g, o, none⟩ = some (.string xs[0]) := by simpa using hcell
          have ha := add_first b xs h0 hx
          have hz : (0 : Int) < (xs.length : Int) := by omega
          by_cases hbig : 4000 < (joinK b xs 1).size
          · go_wp2_with fail
            go_quiet ((go_at_call 33; exact Calls.quiet_of_same (HM.out _ (by rfl) _)))
            go_wp2
            go_ret2
            exact ⟨HW.out _, .inr ⟨HL.out hbig, rfl⟩⟩
          · go_wp2_with fail
            go_quiet ((go_at_call 33; exact Calls.quiet_of_same (HM.out _ (by rfl) _)))
            go_wp2
            go_roundw
            case rel => exact ⟨1, by omega, rfl, rfl, by omega, HA, HW.out _⟩
            case measure => simp [intOf]; omega
        · have hk1 : 0 < k := by omega
          have ha := add_mid b xs k hsz
          have ha2 := add_next b xs k hk1 hlt hsz hx
          by_cases hbig : 4000 < (joinK b xs (k + 1)).size
          · go_wp2_with fail
            go_quiet ((go_at_call 33; exact Calls.quiet_of_same (HM.out _ (by rfl) _)))
            go_wp2
            go_ret2
            exact ⟨HW.out _, .inr ⟨HL.out hbig, rfl⟩⟩
          · go_wp2_with fail
            go_quiet ((go_at_call 33; exact Calls.quiet_of_same (HM.out _ (by rfl) _)))
            go_wp2
            go_roundw
            case rel => exact ⟨k + 1, by omega, by go_num, rfl, by omega, HA, HW.out _⟩
            case measure => simp [intOf]; omega
    · obtain rfl : k = xs.length := by omega
      have HJ : Hid (Joinable b xs) := by
        have h1 := hall.out
        rw [List.take_of_length_le (Nat.le_refl _)] at h1
        refine ⟨h1, ?_⟩
        have h2 := joinK_size b xs xs.length h0 (Nat.le_refl _)
        rw [List.take_of_length_le (Nat.le_refl _)] at h2
        omega
      clear hall
      go_wp2
      go_ret2
      exact ⟨hwr.out, .inl ⟨HJ, rfl⟩⟩

/-! ### impl.JoinStrings -/
theorem jimpl_zero (A : Option Addr) (c : Nat) (sep : ByteArray) (w : World) :
    Calls Try.prog 12 #[.slice A 0 c, .string sep] w fun e w' => e = .returned (.tuple #[.string ⟨#[]⟩, .bool false]) ∧ w = w' := by
  go_enter Try.func12, Try.ntmps12
  go_wp2
  go_ret2
  exact ⟨rfl, rfl⟩
theorem jimpl_sep (A : Option Addr) (n c : Nat) (sep : ByteArray) (w : World) (hn : 0 < n) (h : ((sep.size : Int) == 1) = false) :
    Calls Try.prog 12 #[.slice A n c, .string sep] w fun e w' => e = .returned (.tuple #[.string ⟨#[]⟩, .bool false]) ∧ w = w' := by
  have hne : ((n : Int) == 0) = false := beq_eq_false_iff_ne.2 (by omega)
  go_enter Try.func12, Try.ntmps12
  go_wp2
  go_ret2
  exact ⟨rfl, rfl⟩
theorem join_lib (g o c : Nat) (b : UInt8) (xs : List ByteArray) (w : World) (hc : Cells w g o xs) (hg : g < w.heap.size) (hcap : xs.length ≤ c) (hj : Joinable b xs) (hn : xs.length ≤ 1048576) (h0 : 0 < xs.length) :
    Calls Try.prog 32 #[.slice (some ⟨g, o, none⟩) xs.length c, .string ⟨#[b]⟩] w fun e w' => e = .returned (.string (joinAll b xs)) ∧ Below w.heap.size w w' := by
  have hl := join_len b xs (fun e => by rw [e] at h0; simp at h0)
  have h2 := hj.2
  refine (Try.strings_Join g o c xs ⟨#[b]⟩ w hc hg (by omega) hcap ?_).mono fun e w' ⟨he, hb⟩ => ⟨?_, hb⟩
  · show (Lib.join (bytesOf xs) [b]).length ≤ _
    omega
  · rw [he]
    have e1 : joinAll b xs = ⟨(Lib.join (bytesOf xs) [b]).toArray⟩ := by
      unfold joinAll joinK
      rw [List.take_of_length_le (Nat.le_refl _)]
    rw [e1]
    rfl
/-- What impl.JoinStrings hands back. -/
def JoinPostB (b : UInt8) (xs : List ByteArray) (w : World) (e : Ending) (w' : World) : Prop :=
  Below w.heap.size w w' ∧ ((Joinable b xs ∧ e = .returned (.tuple #[.string (joinAll b xs), .bool true])) ∨ (¬ Joinable b xs ∧ e = .returned (.tuple #[.string ⟨#[]⟩, .bool false])))
theorem not_room {b : UInt8} {xs : List ByteArray} (k : Nat) (h : 4000 < xs.length - 1 + tot (xs.take k)) : ¬ Joinable b xs := fun hj => by
  have h2 := tot_take_le xs k
  have h3 := hj.2
  omega
set_option maxHeartbeats 1600000 in
theorem jimpl_any (g o c : Nat) (b : UInt8) (xs : List ByteArray) (w : World) (hc : Cells w g o xs) (hg : g < w.heap.size) (hcap : xs.length ≤ c) (hn : xs.length + tot xs ≤ 1048576) (h0 : 0 < xs.length) :
    Calls Try.prog 12 #[.slice (some ⟨g, o, none⟩) xs.length c, .string ⟨#[b]⟩] w (JoinPostB b xs w) := by
  have hne : ((xs.length : Int) == 0) = false := beq_eq_false_iff_ne.2 (by omega)
  go_enter Try.func12, Try.ntmps12
  go_wp2
  clear hne
  go_loop [6, 23] (fun r i => ∃ (k : Nat) (m : Int), k ≤ xs.length ∧ i = .int .i64 k ∧ r = .int .i64 m ∧ -1048576 ≤ m ∧ m ≤ 4000 ∧ Hid (m = 4000 - ((xs.length : Int) - 1) - tot (xs.take k)) ∧ Hid (0 < k → 0 ≤ m) ∧ Hid (∀ x ∈ xs.take k, b ∉ x.data.toList)) (fun _ i => xs.length - (intOf i).toNat)
  case atStart => exact ⟨0, _, Nat.zero_le _, rfl, rfl, by omega, by omega, by simp [Hid, tot], fun h => absurd h (by omega), by simp [Hid]⟩
  case round =>
    obtain ⟨k, m, hk, rfl, rfl, hm0, hm1, hm, hpos, hall⟩ := hrel
    by_cases hlt : k < xs.length
    · have hcell := hc.at_ k hlt
      have hx : xs[k].size ≤ 1048576 := by have := le_tot xs k hlt; omega
      have HT := Lib.hid (tot_take_succ xs k hlt)
      have htl := tot_take_le xs (k + 1)
      by_cases hneg : m - xs[k].size < 0
      · have HN : Hid (¬ Joinable b xs) := not_room (k + 1) (by have h1 := hm.out; have h2 := HT.out; omega)
        go_wp2
        go_ret2
        exact ⟨Below.refl _ _, .inr ⟨HN, rfl⟩⟩
      · have hnn : 0 ≤ m - (xs[k].size : Int) := by omega
        have HR : Hid (m - (xs[k].size : Int) = 4000 - ((xs.length : Int) - 1) - tot (xs.take (k + 1))) := by
          have h1 := hm.out; have h2 := HT.out; unfold Hid; omega
        by_cases hmem : b ∈ xs[k].data.toList
        · have HN := Lib.hid (not_hold k hlt hmem)
          have HM := Lib.hid (fun W : World => contains_yes xs[k] b W hmem)
          clear hmem hall
          go_wp2_with (go_at_call 31; refine (HM.out _).mono ?_; rintro e w' ⟨rfl, rfl⟩)
          go_ret2
          exact ⟨Below.refl _ _, .inr ⟨HN.out, rfl⟩⟩
        · have HM := Lib.hid (fun W : World => contains_no xs[k] b W hmem)
          have HA : Hid (∀ x ∈ xs.take (k + 1), b ∉ x.data.toList) := by
            rw [List.take_succ_eq_append_getElem hlt]
            intro x hx
            rcases List.mem_append.1 hx with hx | hx
            · exact hall.out x hx
            · rw [List.mem_singleton.1 hx]; exact hmem
          clear hmem hall
          go_wp2_with (go_at_call 31; refine (HM.out _).mono ?_; rintro e w' ⟨rfl, rfl⟩)
          go_round
          case rel => exact ⟨k + 1, _, by omega, by go_num, rfl, by omega, by omega, HR, fun _ => by omega, HA⟩
          case measure => simp [intOf]; omega
    · obtain rfl : k = xs.length := by omega
      have HJ : Hid (Joinable b xs) := by
        have h1 := hall.out
        have h2 := hm.out
        have h3 := hpos.out h0
        rw [List.take_of_length_le (Nat.le_refl _)] at h1 h2
        exact ⟨h1, by omega⟩
      have HL := Lib.hid (join_lib g o c b xs w hc hg hcap HJ.out (by omega) h0)
      clear hall hpos hm
      go_wp2_with (go_at_call 32; refine HL.out.mono ?_; rintro e w' ⟨rfl, hb⟩; have HB := Lib.hid hb; clear hb)
      go_ret2
      exact ⟨HB.out, .inl ⟨HJ, rfl⟩⟩
end Go.Proofs.Ytcnpbhbhklmifaa
