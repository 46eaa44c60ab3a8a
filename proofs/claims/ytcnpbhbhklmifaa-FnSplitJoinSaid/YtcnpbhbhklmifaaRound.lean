/-
  The round trip of splitting and joining; contracts of impl.SplitString, impl.JoinStrings, spec.JoinStrings, impl.LessString, spec.LessString in the form that laws.FnSplitJoin asks. Conditions: stated at each theorem.
-/
import Derived.Test.YtcnpbhbhklmifaaDraw
import Derived.Test.YtcnpbhbhklmifaaJoin
namespace Go.Proofs.Ytcnpbhbhklmifaa
open Go.RowKit Go.Sort

/-! ### Parts joined again -/
theorem parts_join (b : UInt8) : ∀ (n : Nat) (l : List UInt8), l.length ≤ n → Lib.join (splitL b l) [b] = l ∧ ∀ p ∈ splitL b l, b ∉ p := by
  intro n
  induction n with
  | zero =>
    intro l hl
    obtain rfl : l = [] := List.length_eq_zero_iff.1 (by omega)
    rw [splitL_one b [] (by simp)]
    simp [Lib.join]
  | succ n ih =>
    intro l hl
    by_cases hm : b ∈ l
    · obtain ⟨l1, l2, rfl, hno⟩ := List.eq_append_cons_of_mem hm
      rw [splitL_cut b l1 l2 hno]
      obtain ⟨h1, h2⟩ := ih l2 (by simp at hl; omega)
      obtain ⟨x, r, hx⟩ : ∃ x r, splitL b l2 = x :: r := by
        cases h : splitL b l2 with
        | nil => simp [splitL] at h
        | cons x r => exact ⟨x, r, rfl⟩
      refine ⟨?_, ?_⟩
      · rw [hx] at h1 ⊢
        rw [show Lib.join (l1 :: x :: r) [b] = l1 ++ ([b] ++ Lib.join (x :: r) [b]) by simp [Lib.join, List.intercalate, List.intersperse]]
        rw [h1]
        simp
      · intro p hp
        rcases List.mem_cons.1 hp with rfl | hp
        · exact hno
        · exact h2 p hp
    · rw [splitL_one b l hm]
      refine ⟨by simp [Lib.join, List.intercalate], ?_⟩
      intro p hp
      obtain rfl : p = l := by simpa using hp
      exact hm
theorem bytes_parts (b : UInt8) (s : ByteArray) : bytesOf (partsB b s) = splitL b s.data.toList := by
  unfold bytesOf partsB
  rw [List.map_map]
  simp [Function.comp_def]
theorem join_parts (b : UInt8) (s : ByteArray) : joinAll b (partsB b s) = s := by
  unfold joinAll joinK
  rw [List.take_length, bytes_parts, (parts_join b _ _ (Nat.le_refl _)).1]
theorem joinable_parts (b : UInt8) (s : ByteArray) (hs : s.size ≤ 4000) : Joinable b (partsB b s) := by
  have hj := parts_join b _ s.data.toList (Nat.le_refl _)
  refine ⟨?_, ?_⟩
  · intro x hx
    unfold partsB at hx
    obtain ⟨p, hp, rfl⟩ := List.mem_map.1 hx
    simpa using hj.2 p hp
  · have h := join_len b (partsB b s) (fun e => by have := partsB_ne b s; rw [e] at this; simp at this)
    rw [bytes_parts, hj.1] at h
    have h3 : s.data.toList.length = s.size := Array.length_toList
    omega

/-! ### The contracts -/
theorem split_res (s sep : ByteArray) (hs : s.size ≤ 10) : ∃ (xs : List ByteArray) (R : Bool), (∀ w, Calls Try.prog 10 #[.string s, .string sep] w (RowRes xs R w)) ∧
    ((((sep.size : Int) == 1) = false ∧ xs = [] ∧ R = false) ∨ (∃ b, sep = ⟨#[b]⟩ ∧ xs = partsB b s ∧ R = true)) := by
  by_cases h2 : sep.size = 1
  · obtain ⟨b, rfl⟩ : ∃ b, sep = ⟨#[b]⟩ := by
      obtain ⟨⟨l⟩⟩ := sep
      match l, h2 with
      | [b], _ => exact ⟨b, rfl⟩
    exact ⟨_, _, fun w => split_impl_yes s b w (by omega), .inr ⟨b, rfl, rfl, rfl⟩⟩
  · have h3 : ((sep.size : Int) == 1) = false := beq_eq_false_iff_ne.2 (by omega)
    exact ⟨_, _, fun w => split_impl_no s sep w (.inr h3), .inl ⟨h3, rfl, rfl⟩⟩
theorem own_cells {B g cap : Nat} {xs : List ByteArray} {w : World} (h : w.ownsRow B 9 1 (.slice (some ⟨g, 0, none⟩) xs.length cap) xs.length (xs.map Value.string)) : Cells w g 0 xs := fun j x hx => by
  have hj : j < xs.length := (List.getElem?_eq_some_iff.1 hx).1
  have := h.cellAt j (by omega)
  rw [Nat.zero_add, this]
  simp [hx]
theorem jspec_none (A : Option Addr) (c : Nat) (sep : ByteArray) (w : World) :
    Calls Try.prog 13 #[.slice A 0 c, .string sep] w fun e w' => e = .returned (.tuple #[.string ⟨#[]⟩, .bool false]) ∧ w = w' := by
  by_cases h : sep.size = 1
  · have h1 : (1 : Int) ≤ sep.size := by omega
    have h2 : (sep.size : Int) ≤ 1 := by omega
    clear h
    go_enter Try.func13, Try.ntmps13
    go_wp2
    go_ret2
    exact ⟨rfl, rfl⟩
  · exact jspec_sep A 0 c sep w (beq_eq_false_iff_ne.2 (by omega))
theorem both (xs : List ByteArray) (sep : ByteArray) (hn : xs.length + tot xs ≤ 1048576) (h0 : 0 < xs.length) : ∃ (R1 : ByteArray) (R2 : Bool),
    (∀ (g o c : Nat) (w : World), Cells w g o xs → Calls Try.prog 13 #[.slice (some ⟨g, o, none⟩) xs.length c, .string sep] w fun e w' => e = .returned (.tuple #[.string R1, .bool R2]) ∧ ∃ k, w' = w.drewN k) ∧
    (∀ (g o c : Nat) (w : World), Cells w g o xs → g < w.heap.size → xs.length ≤ c → Calls Try.prog 12 #[.slice (some ⟨g, o, none⟩) xs.length c, .string sep] w fun e w' => e = .returned (.tuple #[.string R1, .bool R2]) ∧ Below w.heap.size w w') := by
  by_cases h : sep.size = 1
  · obtain ⟨b, rfl⟩ : ∃ b, sep = ⟨#[b]⟩ := by
      obtain ⟨⟨l⟩⟩ := sep
      match l, h with
      | [b], _ => exact ⟨b, rfl⟩
    by_cases hj : Joinable b xs
    · refine ⟨joinAll b xs, true, fun g o c w hc => ?_, fun g o c w hc hg hcap => ?_⟩
      · refine (jspec_any g o c b xs w hc hn h0).mono fun e w' ⟨hk, hr⟩ => ⟨?_, hk⟩
        rcases hr with ⟨_, he⟩ | ⟨hno, _⟩
        · exact he
        · exact absurd hj hno
      · refine (jimpl_any g o c b xs w hc hg hcap hn h0).mono fun e w' ⟨hk, hr⟩ => ⟨?_, hk⟩
        rcases hr with ⟨_, he⟩ | ⟨hno, _⟩
        · exact he
        · exact absurd hj hno
    · refine ⟨⟨#[]⟩, false, fun g o c w hc => ?_, fun g o c w hc hg hcap => ?_⟩
      · refine (jspec_any g o c b xs w hc hn h0).mono fun e w' ⟨hk, hr⟩ => ⟨?_, hk⟩
        rcases hr with ⟨hyes, _⟩ | ⟨_, he⟩
        · exact absurd hyes hj
        · exact he
      · refine (jimpl_any g o c b xs w hc hg hcap hn h0).mono fun e w' ⟨hk, hr⟩ => ⟨?_, hk⟩
        rcases hr with ⟨hyes, _⟩ | ⟨_, he⟩
        · exact absurd hyes hj
        · exact he
  · have hne : ((sep.size : Int) == 1) = false := beq_eq_false_iff_ne.2 (by omega)
    refine ⟨⟨#[]⟩, false, fun g o c w _ => ?_, fun g o c w _ _ _ => ?_⟩
    · exact (jspec_sep _ _ _ sep w hne).mono fun e w' ⟨he, hw⟩ => ⟨he, 0, by rw [World.drewN_zero, hw]⟩
    · exact (jimpl_sep _ _ _ sep w h0 hne).mono fun e w' ⟨he, hw⟩ => ⟨he, by rw [← hw]; exact Below.refl _ _⟩

/-- The answer of JoinStrings. -/
def JoinRes (R1 : ByteArray) (R2 : Bool) (w : World) (e : Ending) (w' : World) : Prop := e = .returned (.tuple #[.string R1, .bool R2]) ∧ Below w.heap.size w w'
theorem own_cap {w : World} {B g n cap : Nat} {xs : List Value} (h : w.ownsRow B 9 1 (.slice (some ⟨g, 0, none⟩) n cap) n xs) : n ≤ cap := by
  rcases h.2 with ⟨h1, _⟩ | ⟨g', cap', cur, h1, _, _, h3, _⟩
  · cases h1
  · cases h1; exact h3
theorem join_res (xs : List ByteArray) (sep : ByteArray) (hn : xs.length + tot xs ≤ 1048576) : ∃ (R1 : ByteArray) (R2 : Bool),
    (∀ (B : Nat) (v : Value) (w : World), w.ownsRow B 9 1 v xs.length (xs.map Value.string) → Calls Try.prog 12 #[v, .string sep] w (JoinRes R1 R2 w)) ∧
    (∀ (B : Nat) (v : Value) (w : World), w.ownsRow B 9 1 v xs.length (xs.map Value.string) → Calls Try.prog 13 #[v, .string sep] w (JoinRes R1 R2 w)) := by
  by_cases h0 : 0 < xs.length
  · obtain ⟨R1, R2, h13, h12⟩ := both xs sep hn h0
    obtain ⟨k, hk⟩ : ∃ k, xs.length = k + 1 := ⟨xs.length - 1, by omega⟩
    refine ⟨R1, R2, fun B v w h => ?_, fun B v w h => ?_⟩
    · have h' := h
      rw [hk] at h'
      obtain ⟨g, cap, rfl⟩ := ownsRow_succ h'
      rw [← hk] at h ⊢
      exact (h12 g 0 cap w (own_cells h) (h.lt g rfl).2 (own_cap h)).mono fun e w' ⟨he, hb⟩ => ⟨he, hb⟩
    · have h' := h
      rw [hk] at h'
      obtain ⟨g, cap, rfl⟩ := ownsRow_succ h'
      rw [← hk] at h ⊢
      refine (h13 g 0 cap w (own_cells h)).mono fun e w' ⟨he, k, hw⟩ => ⟨he, ?_⟩
      rw [hw]
      exact below_drewN w k
  · obtain rfl : xs = [] := List.length_eq_zero_iff.1 (by omega)
    have hv : ∀ (B : Nat) (v : Value) (w : World), w.ownsRow B 9 1 v 0 [] → ∃ A c, v = .slice A 0 c := by
      intro B v w h
      rcases h.2 with ⟨rfl, _⟩ | ⟨g, cap, _, rfl, _⟩
      · exact ⟨_, _, rfl⟩
      · exact ⟨_, _, rfl⟩
    refine ⟨⟨#[]⟩, false, fun B v w h => ?_, fun B v w h => ?_⟩
    · obtain ⟨A, c, rfl⟩ := hv B v w h
      refine (jimpl_zero A c sep w).mono fun e w' ⟨he, hw⟩ => ⟨he, ?_⟩
      rw [← hw]; exact Below.refl _ _
    · obtain ⟨A, c, rfl⟩ := hv B v w h
      refine (jspec_none A c sep w).mono fun e w' ⟨he, hw⟩ => ⟨he, ?_⟩
      rw [← hw]; exact Below.refl _ _
theorem less_impl (a b : ByteArray) (w : World) :
    Calls Try.prog 15 #[.string a, .string b] w fun e w' => e = .returned (.bool (Op.bytesLess a.toList b.toList)) ∧ w = w' := by
  go_enter Try.func15, Try.ntmps15
  go_wp2
  go_ret
  exact ⟨rfl, rfl⟩

theorem less_spec (a b : ByteArray) (w : World) :
    Calls Try.prog 16 #[.string a, .string b] w fun e w' => e = .returned (.bool (Op.bytesLess a.toList b.toList)) ∧ w = w' := by
  go_enter Try.func16, Try.ntmps16
  go_wp2
  go_ret
  exact ⟨rfl, rfl⟩
theorem less_one : ∀ (x y : List UInt8), Op.bytesLess x y = true → Op.bytesLess y x = false := by
  intro x
  induction x with
  | nil => intro y h; cases y <;> simp_all [Op.bytesLess]
  | cons a x ih =>
    intro y h
    cases y with
    | nil => simp [Op.bytesLess] at h
    | cons b y =>
      simp only [Op.bytesLess, Bool.or_eq_true, decide_eq_true_eq, Bool.and_eq_true, beq_iff_eq] at h
      rcases h with h | ⟨rfl, h⟩
      · have h1 : ¬ b < a := UInt8.lt_asymm h
        have h2 : ¬ b = a := fun e => by subst e; exact UInt8.lt_irrefl _ h
        simp [Op.bytesLess, h1, h2]
      · simp [Op.bytesLess, ih y h]
theorem CodeRow.below {B B' : Nat} {A : Option Addr} {n : Nat} {w w' : World} (h : CodeRow B A n w) (hb : Below B w w') (hB : B ≤ B') : CodeRow B' A n w' := by
  intro j hj
  obtain ⟨a, b, ha, hab, h2, hc⟩ := h j hj
  have hblk : (a.add j).block = a.block := by unfold Addr.add; split <;> rfl
  exact ⟨a, b, ha, by omega, h2, (hb.cell (by rw [hblk]; exact hab)).trans hc⟩
end Go.Proofs.Ytcnpbhbhklmifaa
