/-
  Contracts of spec.l1Cur.pick, .one, .of, .any1, spec.DrawSplitString, spec.DrawLessString, spec.DrawJoinStrings over this translation. Conditions: stated at each theorem.
-/
import Derived.Test.YtcnpbhbhklmifaaCur
namespace Go.Proofs.Ytcnpbhbhklmifaa
open Go.RowKit Go.Sort

theorem grown_trans {a b c : World} {r : Option Nat} (h : a.grownBy b r) (k : b.grownBy c r) : a.grownBy c r :=
  ⟨k.os.trans h.os, k.tape.trans h.tape, k.output.trans h.output, Nat.le_trans h.size k.size, fun i hi hne => (k.block i (Nat.lt_of_lt_of_le hi h.size) hne).trans (h.block i hi hne)⟩
theorem Cur.kept {B : Nat} {A : Option Addr} {n c g k : Nat} {w w' : World} {r : Option Nat} (h : Cur B A n c g k w) (hg : w.grownBy w' r) (hne : some g ≠ r) (hB : ∀ i, r = some i → B ≤ i) : Cur B A n c g k w' := by
  obtain ⟨hc0, hc1, ⟨u0, hu0, hc2⟩, hf1, hf2, hrow, hold, hlt⟩ := h
  have hb := hg.block g hlt hne
  refine ⟨(World.cell?_of_block (a := ⟨g, 0, none⟩) hb).trans hc0, (World.cell?_of_block (a := ⟨g, 1, none⟩) hb).trans hc1, ⟨u0, hu0, (World.cell?_of_block (a := ⟨g, 2, none⟩) hb).trans hc2⟩, (World.frozen?_of_block (a := ⟨g, 1, none⟩) hb).trans hf1, (World.frozen?_of_block (a := ⟨g, 2, none⟩) hb).trans hf2, ?_, hold, Nat.lt_of_lt_of_le hlt hg.size⟩
  intro j hj
  obtain ⟨a, b, ha, hab, h2, hc⟩ := hrow j hj
  have hblk : (a.add j).block = a.block := by unfold Addr.add; split <;> rfl
  have hb2 := hg.block (a.add j).block (by rw [hblk]; omega) (fun e => by have := hB _ e.symm; rw [hblk] at this; omega)
  exact ⟨a, b, ha, hab, h2, (World.cell?_of_block hb2).trans hc⟩
theorem Cur.alloc {B : Nat} {A : Option Addr} {n c g k : Nat} {w : World} (h : Cur B A n c g k w) (o : Obj) : Cur B A n c g k (w.alloc o) :=
  h.kept (World.grownBy_alloc w o none) (by simp) (fun _ e => by cases e)
/-- The bytes of the code, as the reader needs them. -/
def CodeRow (B : Nat) (A : Option Addr) (n : Nat) (w : World) : Prop := ∀ j, j < n → ∃ (a : Addr) (b : Nat), A = some a ∧ a.block < B ∧ b < 256 ∧ w.cell? (a.add j) = some (.int .u8 b)
theorem cur_new (w : World) (A : Option Addr) (n c : Nat) (T : TypeId) (h : CodeRow w.heap.size A n w) : Cur w.heap.size A n c w.heap.size 0 (w.alloc (.cells #[.slice A n c, .int .i64 0, .int .u64 0] T)) := by
  refine ⟨World.cell?_alloc_new _ _ _ _, World.cell?_alloc_new _ _ _ _, ⟨0, by decide, World.cell?_alloc_new _ _ _ _⟩, World.frozen?_alloc_at _ _ _ _ rfl, World.frozen?_alloc_at _ _ _ _ rfl, ?_, Nat.le_refl _, by simp⟩
  intro j hj
  obtain ⟨a, b, ha, hab, h2, hc⟩ := h j hj
  have hblk : (a.add j).block = a.block := by unfold Addr.add; split <;> rfl
  exact ⟨a, b, ha, hab, h2, (World.cell?_alloc_lt _ _ _ (by rw [hblk]; exact hab)).trans hc⟩

/-! ### pick, one, of, any1 -/
theorem pick_any (B : Nat) (A : Option Addr) (n c g k m : Nat) (w : World) (h : Cur B A n c g k w) (hk : k < 1000000) (h1 : 1 < m) (h2 : m ≤ 200) :
    Calls Try.prog 29 #[.pointer (some ⟨g, 0, none⟩), .int .i64 m] w (NextPost B A n c g k m w) := by
  have HN := Lib.hid (next_any B A n c g k w h hk)
  clear h
  go_enter Try.func29, Try.ntmps29
  go_wp2_with (go_at_call 39; refine HN.out.mono ?_; rintro e w' ⟨v, hv, rfl, hc, hg⟩; have HC := Lib.hid hc; have HG := Lib.hid hg; clear hc hg)
  go_ret
  exact ⟨v % m, Nat.mod_lt _ (by omega), by (try simp only [Int.natCast_emod]); rfl, HC.out, HG.out⟩
def OnePost (B : Nat) (A : Option Addr) (n c g k : Nat) (w : World) (e : Ending) (w' : World) : Prop :=
  ∃ b : Bool, e = .returned (.bool b) ∧ Cur B A n c g (k + 1) w' ∧ w.grownBy w' (some g)
theorem one_any (B : Nat) (A : Option Addr) (n c g k m : Nat) (w : World) (h : Cur B A n c g k w) (hk : k < 1000000) (h1 : 1 < m) (h2 : m ≤ 200) :
    Calls Try.prog 30 #[.pointer (some ⟨g, 0, none⟩), .int .i64 m] w (OnePost B A n c g k w) := by
  have HN := Lib.hid (pick_any B A n c g k m w h hk h1 h2)
  clear h
  go_enter Try.func30, Try.ntmps30
  go_wp2_with (go_at_call 29; refine HN.out.mono ?_; rintro e w' ⟨v, hv, rfl, hc, hg⟩; have HC := Lib.hid hc; have HG := Lib.hid hg; clear hc hg)
  go_ret
  exact ⟨_, rfl, HC.out, HG.out⟩
def TextPost (p : ByteArray → Prop) (B : Nat) (A : Option Addr) (n c g k : Nat) (w : World) (e : Ending) (w' : World) : Prop :=
  ∃ x, p x ∧ e = .returned (.string x) ∧ Cur B A n c g (k + 1) w' ∧ w.grownBy w' (some g)
theorem of_any (p : ByteArray → Prop) (B : Nat) (A : Option Addr) (n c g k b cap : Nat) (xs : List ByteArray) (w : World) (h : Cur B A n c g k w) (hk : k < 1000000) (h1 : 1 < xs.length) (h2 : xs.length ≤ 200)
    (hc : Cells w b 0 xs) (hb : b < w.heap.size) (hbg : b ≠ g) (hp : ∀ x ∈ xs, p x) :
    Calls Try.prog 26 #[.pointer (some ⟨g, 0, none⟩), .slice (some ⟨b, 0, none⟩) xs.length cap] w (TextPost p B A n c g k w) := by
  have HN := Lib.hid (pick_any B A n c g k xs.length w h hk h1 h2)
  have HP := Lib.hid hp
  have HC0 := Lib.hid hc
  clear h hp hc
  go_enter Try.func26, Try.ntmps26
  go_wp2_with (go_at_call 29; refine HN.out.mono ?_; rintro e w' ⟨v, hv, rfl, hc, hg⟩; have HC := Lib.hid hc; have HG := Lib.hid hg; have hcell := (World.cell?_of_block (a := ⟨b, v, none⟩) (hg.block b hb (fun e => hbg (Option.some.inj e)))).trans ((by simpa using HC0.out.at_ v hv) : w.cell? ⟨b, v, none⟩ = some (.string xs[v])); clear hc hg)
  go_ret
  exact ⟨xs[v], HP.out _ (List.getElem_mem hv), rfl, HC.out, HG.out⟩
theorem cells_made (w : World) (xs : List ByteArray) (T : TypeId) : Cells (w.alloc (.cells (xs.map Value.string).toArray T)) w.heap.size 0 xs := fun j x hx => by
  rw [World.cell?_alloc_new, Nat.zero_add]
  simp [hx]
/-- A short text. -/
def Short (x : ByteArray) : Prop := x.size ≤ 10
theorem any1_any (B : Nat) (A : Option Addr) (n c g k : Nat) (w : World) (h : Cur B A n c g k w) (hk : k < 1000000) :
    Calls Try.prog 25 #[.pointer (some ⟨g, 0, none⟩)] w (TextPost Short B A n c g k w) := by
  have hlt := h.lt
  have HN := Lib.hid (of_any Short B A n c g k w.heap.size 9 [⟨#[]⟩, ⟨#[97]⟩, ⟨#[97, 44, 98]⟩, ⟨#[115, 111, 109, 101, 32, 119, 111, 114, 100, 115]⟩, ⟨#[120, 35, 121]⟩, ⟨#[45, 49, 50]⟩, ⟨#[0, 255]⟩, ⟨#[44, 44]⟩, ⟨#[48]⟩] _ (h.alloc _) hk (by decide) (by decide) (cells_made w _ 9) (by simp) (by omega) (by
    intro x hx
    simp only [List.mem_cons, List.not_mem_nil, or_false] at hx
    unfold Short
    rcases hx with rfl | rfl | rfl | rfl | rfl | rfl | rfl | rfl | rfl <;> decide))
  clear h
  go_enter Try.func25, Try.ntmps25
  go_wp2_with (go_at_call 26; refine HN.out.mono ?_; rintro e w' ⟨x, hx, rfl, hc, hg⟩; have HC := Lib.hid hc; have HG := Lib.hid hg; clear hc hg)
  go_ret
  exact ⟨x, hx, rfl, HC.out, grown_trans (World.grownBy_alloc _ _ _) HG.out⟩

/-! ### The draws of the laws -/
theorem of_made (p : ByteArray → Prop) (B : Nat) (A : Option Addr) (n c g k cap : Nat) (xs : List ByteArray) (w : World) (h : Cur B A n c g k w) (hk : k < 1000000) (h1 : 1 < xs.length) (h2 : xs.length ≤ 200) (hp : ∀ x ∈ xs, p x) :
    Calls Try.prog 26 #[.pointer (some ⟨g, 0, none⟩), .slice (some ⟨w.heap.size, 0, none⟩) xs.length cap] (w.alloc (.cells (xs.map Value.string).toArray 9)) (TextPost p B A n c g k w) := by
  have hlt := h.lt
  refine (of_any p B A n c g k w.heap.size cap xs _ (h.alloc _) hk h1 h2 (cells_made w xs 9) (by simp) (by omega) hp).mono ?_
  rintro e w' ⟨x, hx, he, hc, hg⟩
  exact ⟨x, hx, he, hc, grown_trans (World.grownBy_alloc _ _ _) hg⟩
theorem below_of {w w1 w2 : World} {g : Nat} (h : Below g w w1) (hg : w1.grownBy w2 (some g)) (hs : g ≤ w1.heap.size) : Below g w w2 :=
  h.grown hg hs (fun k e => by cases e; exact Nat.le_refl _)
/-- A text that stands between. -/
def Sep (x : ByteArray) : Prop := x.size ≤ 2
def TwoPost (p q : ByteArray → Prop) (w : World) (e : Ending) (w' : World) : Prop :=
  ∃ s t, p s ∧ q t ∧ e = .returned (.tuple #[.string s, .string t]) ∧ Below w.heap.size w w'
set_option maxHeartbeats 800000 in
theorem draw_split (A : Option Addr) (n c : Nat) (w : World) (h : CodeRow w.heap.size A n w) : Calls Try.prog 9 #[.slice A n c] w (TwoPost Short Sep w) := by
  have HC0 := Lib.hid (cur_new w A n c 44 h)
  clear h
  go_enter Try.func9, Try.ntmps9
  go_wp2_with fail
  refine (any1_any _ _ _ _ _ _ _ HC0.out (by omega)).mono ?_
  rintro e w1 ⟨s, hs, rfl, hc1, hg1⟩
  have HC1 := Lib.hid hc1
  have HB1 := Lib.hid (below_of ((Below.refl w.heap.size w).alloc (Nat.le_refl _) _) hg1 (by simp))
  clear hc1 hg1
  go_wp2_with fail
  refine (of_made Sep _ _ _ _ _ _ 5 [⟨#[44]⟩, ⟨#[44]⟩, ⟨#[32]⟩, ⟨#[]⟩, ⟨#[44, 44]⟩] _ HC1.out (by omega) (by decide) (by decide) (by
    intro x hx
    simp only [List.mem_cons, List.not_mem_nil, or_false] at hx
    unfold Sep
    rcases hx with rfl | rfl | rfl | rfl | rfl <;> decide)).mono ?_
  rintro e w2 ⟨t, ht, rfl, hc2, hg2⟩
  have HB2 := Lib.hid (below_of HB1.out hg2 HB1.out.size)
  clear hc2 hg2
  go_wp2
  go_ret2
  exact ⟨s, t, hs, ht, rfl, HB2.out⟩
set_option maxHeartbeats 800000 in
theorem draw_less (A : Option Addr) (n c : Nat) (w : World) (h : CodeRow w.heap.size A n w) : Calls Try.prog 14 #[.slice A n c] w (TwoPost Short Short w) := by
  have HC0 := Lib.hid (cur_new w A n c 44 h)
  clear h
  go_enter Try.func14, Try.ntmps14
  go_wp2_with fail
  refine (any1_any _ _ _ _ _ _ _ HC0.out (by omega)).mono ?_
  rintro e w1 ⟨s, hs, rfl, hc1, hg1⟩
  have HC1 := Lib.hid hc1
  have HB1 := Lib.hid (below_of ((Below.refl w.heap.size w).alloc (Nat.le_refl _) _) hg1 (by simp))
  clear hc1 hg1
  go_wp2_with fail
  refine (any1_any _ _ _ _ _ _ _ HC1.out (by omega)).mono ?_
  rintro e w2 ⟨t, ht, rfl, hc2, hg2⟩
  have HB2 := Lib.hid (below_of HB1.out hg2 HB1.out.size)
  clear hc2 hg2
  go_wp2
  go_ret2
  exact ⟨s, t, hs, ht, rfl, HB2.out⟩

theorem info5 : (Try.prog.info? 5).map (fun i => (i.zero, i.size, i.bytes)) = some (some (.int .u8 0), 1, 1) := by kernel_rfl
/-- A new row of texts and a text. -/
def RowText (w : World) (e : Ending) (w' : World) : Prop :=
  ∃ v xs sep, e = .returned (.tuple #[v, .string sep]) ∧ w'.ownsRow w.heap.size 9 1 v xs.length (xs.map Value.string) ∧ xs.length ≤ 4 ∧ tot xs ≤ 5000 ∧ Sep sep ∧ Below w.heap.size w w'
theorem tot_snoc (xs : List ByteArray) (x : ByteArray) : tot (xs ++ [x]) = tot xs + x.size := by simp [tot]
theorem own_grown {w w' : World} {B g n : Nat} {v : Value} {xs : List Value} (h : w.ownsRow B 9 1 v n xs) (hg : w.grownBy w' (some g)) (hB : g < B) : w'.ownsRow B 9 1 v n xs := by
  refine h.kept hg ?_
  rcases hv : v.ownBlock with _ | k
  · exact .inl rfl
  · have := (h.lt k hv).1
    exact .inr (fun e => by have := Option.some.inj e; omega)
theorem own_ne_reader {w : World} {B g n : Nat} {v : Value} {xs : List Value} (h : w.ownsRow B 9 1 v n xs) (hB : g < B) : some g ≠ v.ownBlock := fun e => by
  have := (h.lt g e.symm).1
  omega
theorem zeros_text (w : World) (g cap n : Nat) (B : Nat) (h : w.ownsRow B 5 1 (.slice (some ⟨g, 0, none⟩) n cap) n (List.replicate n (.int .u8 0))) :
    ∃ z : ByteArray, z.size = n ∧ (convert 22 9 (.slice (some ⟨g, 0, none⟩) n cap)).run Try.prog w = .ok (.string z) w := by
  refine ⟨⟨(List.replicate n (0 : UInt8)).toArray⟩, by simp [ByteArray.size], ?_⟩
  have e := run_convert_bytes_back (P := Try.prog) w 22 9 5 ⟨g, 0, none⟩ cap (List.replicate n (0 : UInt8)) Try.underlying22 Try.underlying5 Try.underlying9 (fun j hj => by
    have hj2 : j < n := by simpa using hj
    rw [Lib.add_plain, Nat.zero_add, h.cellAt j (by omega)]
    simp [hj2])
  rw [List.length_replicate] at e
  exact e
theorem zeros_made {w : World} {B g z : Nat} (h : w.ownsRow B 5 1 (.slice (some ⟨g, 0, none⟩) (3990 + z) (3990 + z)) (3990 + z) (madeCells (Value.int .u8 0).cells ((3990 + z) * 1)).toList) :
    ∃ t : ByteArray, t.size = 3990 + z ∧ (convert 22 9 (.slice (some ⟨g, 0, none⟩) (3990 + z) (3990 + z))).run Try.prog w = .ok (.string t) w := by
  refine zeros_text w g (3990 + z) (3990 + z) B ?_
  have e : (madeCells (Value.int .u8 0).cells ((3990 + z) * 1)).toList = List.replicate (3990 + z) (.int .u8 0) := by
    rw [Nat.mul_one]
    show (madeCells #[Value.int .u8 0] (3990 + z)).toList = _
    rw [toList_madeCells_one]
  rw [← e]; exact h
theorem row_snoc {w : World} {B : Nat} {v : Value} {xs : List ByteArray} {x : ByteArray} (h : w.ownsRow B 9 1 v (xs.length + 1) (xs.map Value.string ++ [.string x])) : w.ownsRow B 9 1 v (xs ++ [x]).length ((xs ++ [x]).map Value.string) := by simpa using h
set_option maxHeartbeats 1600000 in
theorem draw_join (A : Option Addr) (n c : Nat) (w : World) (h : CodeRow w.heap.size A n w) : Calls Try.prog 11 #[.slice A n c] w (RowText w) := by
  obtain ⟨i0, hi, hz0, hz1, hz2⟩ := info_parts info9
  obtain ⟨i5, gi, gz0, gz1, gz2⟩ := info_parts info5
  have HC0 := Lib.hid ((cur_new w A n c 44 h).alloc (.cells #[] 9))
  have HR0 := Lib.hid (World.ownsRow_made (w.alloc (.cells #[.slice A n c, .int .i64 0, .int .u64 0] 44)) #[] 0 (e := 9) (size := 1) (base := w.heap.size + 1) (by simp) (by simp [maxLen]) rfl)
  clear h
  go_enter Try.func11, Try.ntmps11
  go_wp2_with fail
  refine (pick_any _ _ _ _ _ _ 4 _ HC0.out (by omega) (by omega) (by omega)).mono ?_
  rintro e w1 ⟨v, hv, rfl, hc1, hg1⟩
  have HC1 := Lib.hid hc1
  have HB1 := Lib.hid (below_of (((Below.refl w.heap.size w).alloc (Nat.le_refl _) _).alloc (by simp) _) hg1 (by simp; omega))
  have HR1 := Lib.hid (own_grown HR0.out hg1 (by omega))
  clear hc1 hg1
  go_wp2_with fail
  go_loopw [5, 7] (fun l i wr => ∃ (k : Nat) (xs : List ByteArray), k ≤ v ∧ i = .int .i64 k ∧ xs.length = k ∧ tot xs ≤ 10 * k ∧ Hid (wr.ownsRow (w.heap.size + 1) 9 1 l xs.length (xs.map Value.string)) ∧ Hid (Cur w.heap.size A n c w.heap.size (k + 1) wr) ∧ Hid (Below w.heap.size w wr)) (fun _ i _ => v - (intOf i).toNat)
  case atStart => exact ⟨0, [], Nat.zero_le _, rfl, rfl, by simp [tot], (by have := HR1.out; simp only [World.size_alloc] at this; exact this), HC1, HB1⟩
  case round =>
    obtain ⟨k, xs, hk, rfl, hxs, htot, hown, hcur, hB⟩ := hrel
    by_cases hlt : k < v
    · go_wp2_with fail
      refine (any1_any _ _ _ _ _ _ _ hcur.out (by omega)).mono ?_
      rintro e w2 ⟨x, hx, rfl, hc2, hg2⟩
      have HO2 := Lib.hid (own_grown hown.out hg2 (by omega))
      have HB2 := Lib.hid (below_of hB.out hg2 hB.out.size)
      have HC2 := Lib.hid hc2
      have HX := Lib.hid hx
      clear hc2 hg2 hx
      go_wp2_with (at_builtin; refine wpList_append_own _ rfl _ _ 26 rfl (w.heap.size + 1) 9 i0 (.string ⟨#[]⟩) 1 16 Try.underlying26 hi hz0 hz1 hz2 rfl (by decide) _ _ _ rfl (HO2.out.alloc _) ⟨w2.heap.size, 0, none⟩ 1 1 [.string x] rfl rfl (cell_one_new _ _ _) (by simp [Value.oneCell']) (by unfold maxLen; omega) (by omega) (by have := HC2.out.lt; simp; omega) ?_; intro v' w3 hown' hgrow _; have HB3 := Lib.hid ((HB2.out.alloc HB2.out.size _).grown hgrow (by have := HB2.out.size; simp; omega) (fun j hj => by have := (HO2.out.lt j hj).1; omega)); have HC3 := Lib.hid ((HC2.out.alloc _).kept hgrow (own_ne_reader HO2.out (by omega)) (fun j hj => by have := (HO2.out.lt j hj).1; omega)); have HO3 := Lib.hid hown'; clear hown' hgrow)
      go_roundw
      case rel => exact ⟨k + 1, xs ++ [x], by omega, by go_num, by simp [hxs], by have := HX.out; unfold Short at this; rw [tot_snoc]; omega, by have := HO3.out; unfold Hid; simpa using this, HC3, HB3⟩
      case measure => simp [intOf]; omega
    · obtain rfl : k = v := by omega
      go_wp2_with fail
      refine (one_any _ _ _ _ _ _ 20 _ hcur.out (by omega) (by omega) (by omega)).mono ?_
      rintro e w2 ⟨b, rfl, hc2, hg2⟩
      have HO2 := Lib.hid (own_grown hown.out hg2 (by omega))
      have HB2 := Lib.hid (below_of hB.out hg2 hB.out.size)
      have HC2 := Lib.hid hc2
      clear hc2 hg2 hown hcur hB
      cases b
      · go_wp2_with fail
        refine (of_made Sep _ _ _ _ _ _ 5 [⟨#[44]⟩, ⟨#[59]⟩, ⟨#[59]⟩, ⟨#[]⟩, ⟨#[97, 98]⟩] _ HC2.out (by omega) (by decide) (by decide) (by
          intro x hx
          simp only [List.mem_cons, List.not_mem_nil, or_false] at hx
          unfold Sep
          rcases hx with rfl | rfl | rfl | rfl | rfl <;> decide)).mono ?_
        rintro e w5 ⟨t, ht, rfl, hc5, hg5⟩
        have HO5 := Lib.hid (own_grown HO2.out hg5 (by omega))
        have HB5 := Lib.hid (below_of HB2.out hg5 HB2.out.size)
        clear hc5 hg5
        go_wp2
        go_ret2
        exact ⟨_, xs, t, rfl, own_base HO5.out (by omega), by omega, by omega, ht, HB5.out⟩
      · go_wp2_with fail
        refine (pick_any _ _ _ _ _ _ 20 _ HC2.out (by omega) (by omega) (by omega)).mono ?_
        rintro e w3 ⟨z, hz, rfl, hc3, hg3⟩
        have HO3 := Lib.hid (own_grown HO2.out hg3 (by omega))
        have HB3 := Lib.hid (below_of HB2.out hg3 HB2.out.size)
        have HC3 := Lib.hid hc3
        clear hc3 hg3
        go_wp2_with (first
          | (at_make; refine wpList_make_full _ rfl _ _ 22 rfl w.heap.size 5 i5 (.int .u8 0) 1 Try.underlying22 gi gz0 gz1 .i64 .i64 _ _ (3990 + z) rfl rfl rfl rfl (by rw [gz2]; omega) (by unfold maxLen; omega) HB3.out.size ?_; intro w4 hown4 hgrow4; obtain ⟨zt, hzt, hconv⟩ := zeros_made hown4; have HZ := Lib.hid hzt; have HO4 := Lib.hid (HO3.out.kept hgrow4 (Classical.em _)); have HB4 := Lib.hid (HB3.out.grown hgrow4 HB3.out.size (fun i e => by cases e)); have HC4 := Lib.hid (HC3.out.kept hgrow4 (by simp) (fun i e => by cases e)); clear hown4 hgrow4 hzt)
          | (at_builtin; refine wpList_append_own _ rfl _ _ 26 rfl (w.heap.size + 1) 9 i0 (.string ⟨#[]⟩) 1 16 Try.underlying26 hi hz0 hz1 hz2 rfl (by decide) _ _ _ rfl (HO4.out.alloc _) ⟨w4.heap.size, 0, none⟩ 1 1 [.string zt] rfl rfl (cell_one_new _ _ _) (by simp [Value.oneCell']) (by unfold maxLen; omega) (by omega) (by have := HC4.out.lt; simp; omega) ?_; intro v' w5 hown' hgrow _; have HB5 := Lib.hid ((HB4.out.alloc HB4.out.size _).grown hgrow (by have := HB4.out.size; simp; omega) (fun j hj => by have := (HO4.out.lt j hj).1; omega)); have HC5 := Lib.hid ((HC4.out.alloc _).kept hgrow (own_ne_reader HO4.out (by omega)) (fun j hj => by have := (HO4.out.lt j hj).1; omega)); have HO5 := Lib.hid (row_snoc hown'); clear hown' hgrow hconv))
        refine (of_made Sep _ _ _ _ _ _ 5 [⟨#[44]⟩, ⟨#[59]⟩, ⟨#[59]⟩, ⟨#[]⟩, ⟨#[97, 98]⟩] _ HC5.out (by omega) (by decide) (by decide) (by
          intro x hx
          simp only [List.mem_cons, List.not_mem_nil, or_false] at hx
          unfold Sep
          rcases hx with rfl | rfl | rfl | rfl | rfl <;> decide)).mono ?_
        rintro e w7 ⟨t, ht, rfl, hc7, hg7⟩
        have HO7 := Lib.hid (own_grown HO5.out hg7 (by omega))
        have HB7 := Lib.hid (below_of HB5.out hg7 HB5.out.size)
        clear hc7 hg7
        go_wp2
        go_ret2
        exact ⟨_, xs ++ [zt], t, rfl, own_base HO7.out (by omega), by simp; omega, by have := HZ.out; rw [tot_snoc]; omega, ht, HB7.out⟩
end Go.Proofs.Ytcnpbhbhklmifaa
