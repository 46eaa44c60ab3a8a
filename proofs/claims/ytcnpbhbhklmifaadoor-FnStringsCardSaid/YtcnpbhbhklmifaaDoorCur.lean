/-
  Contracts of spec.l1Cur.next, .pick, .one, .of, .any1, .among over this translation. Conditions: stated at each theorem.
-/
import Derived.Test.YtcnpbhbhklmifaaDoorVerify
import Derived.Test.YtcnpbhbhklmifaaDoorParse
import Derived.Laws.Bits64b
import Derived.Laws.MakeOwn
import Derived.BigQuiet
namespace Go.Proofs.YtcnpbhbhklmifaaDoor
open Go.RowKit Go.Sort

/-- The cells from place o of block b on hold the texts xs. -/
def Cells (w : World) (b o : Nat) (xs : List ByteArray) : Prop := ∀ j x, xs[j]? = some x → w.cell? ⟨b, o + j, none⟩ = some (.string x)
theorem Cells.at_ {w : World} {b o : Nat} {xs : List ByteArray} (h : Cells w b o xs) (k : Nat) (hk : k < xs.length) : w.cell? ⟨b, o + k, none⟩ = some (.string xs[k]) :=
  h k _ (List.getElem?_eq_getElem hk)
/-- Block g is the reader, which stands at k, over n bytes from A on, which lie below block B. -/
structure Cur (B : Nat) (A : Option Addr) (n c g k : Nat) (w : World) : Prop where
  code : w.cell? ⟨g, 0, none⟩ = some (.slice A n c)
  pos : w.cell? ⟨g, 1, none⟩ = some (.int .i64 k)
  seed : ∃ u : Nat, u < 18446744073709551616 ∧ w.cell? ⟨g, 2, none⟩ = some (.int .u64 u)
  free1 : w.frozen? ⟨g, 1, none⟩ = false
  free2 : w.frozen? ⟨g, 2, none⟩ = false
  row : ∀ j, j < n → ∃ (a : Addr) (b : Nat), A = some a ∧ a.block < B ∧ b < 256 ∧ w.cell? (a.add j) = some (.int .u8 b)
  old : B ≤ g
  lt : g < w.heap.size

theorem u64_wrap (x : Int) : ∃ u : Nat, u < 18446744073709551616 ∧ IntKind.u64.wrap x = u := by
  have h := IntKind.wrap_u64 x
  exact ⟨(IntKind.u64.wrap x).toNat, by rw [h]; omega, by rw [h]; omega⟩

theorem low8 (x : Int) : ∃ v : Nat, v < 256 ∧ wrap64 (bits BinOp.and IntKind.u64 (IntKind.u64.wrap x / 1099511627776) 255) = v := by
  obtain ⟨u, hu, he⟩ := u64_wrap x
  rw [he]
  have h := bits_and_u64_nat (u / 1099511627776) 255 (by omega) (by decide)
  rw [Int.natCast_ediv] at h
  rw [show ((255 : Nat) : Int) = 255 from rfl, show ((1099511627776 : Nat) : Int) = 1099511627776 from rfl] at h
  rw [h]
  have hm : (u / 1099511627776) &&& 255 = (u / 1099511627776) % 256 := Nat.and_two_pow_sub_one_eq_mod _ 8
  rw [hm]
  exact ⟨(u / 1099511627776) % 256, by omega, by unfold wrap64; omega⟩
theorem cur_step {B : Nat} {A : Option Addr} {n c g k : Nat} {w : World} (h : Cur B A n c g k w) (d1 d2 : Nat) (x : Int) (y : Int) (hy : y = (k : Int) + 1) :
    Cur B A n c g (k + 1) ((((w.drewN d1).setCell ⟨g, 1, none⟩ (.int .i64 y)).setCell ⟨g, 2, none⟩ (.int .u64 (IntKind.u64.wrap x))).drewN d2) ∧
    w.grownBy ((((w.drewN d1).setCell ⟨g, 1, none⟩ (.int .i64 y)).setCell ⟨g, 2, none⟩ (.int .u64 (IntKind.u64.wrap x))).drewN d2) (some g) := by
  subst hy
  obtain ⟨u, hu, he⟩ := u64_wrap x
  rw [he]
  obtain ⟨hc0, hc1, ⟨u0, hu0, hc2⟩, hf1, hf2, hrow, hold, hlt⟩ := h
  have e1 : ((w.drewN d1).setCell ⟨g, 1, none⟩ (.int .i64 ((k : Int) + 1))).cell? ⟨g, 1, none⟩ = some (.int .i64 ((k : Int) + 1)) := World.cell?_setCell_same (w.drewN d1) _ _ hc1
  have e2 : ((w.drewN d1).setCell ⟨g, 1, none⟩ (.int .i64 ((k : Int) + 1))).cell? ⟨g, 2, none⟩ = some (.int .u64 u0) := (World.cell?_setCell_other (w.drewN d1) _ _ _ (by simp)).trans hc2
  refine ⟨⟨?_, ?_, ⟨u, hu, ?_⟩, ?_, ?_, ?_, hold, ?_⟩, rfl, rfl, rfl, ?_, ?_⟩
  · exact (World.cell?_setCell_other _ _ _ _ (by simp)).trans ((World.cell?_setCell_other (w.drewN d1) _ _ _ (by simp)).trans hc0)
  · exact (World.cell?_setCell_other _ _ _ _ (by simp)).trans e1
  · exact World.cell?_setCell_same _ _ _ e2
  · exact (World.frozen?_setCell _ _ _ _).trans ((World.frozen?_setCell _ _ _ _).trans hf1)
  · exact (World.frozen?_setCell _ _ _ _).trans ((World.frozen?_setCell _ _ _ _).trans hf2)
  · intro j hj
    obtain ⟨a, b, ha, hb, h2, hc⟩ := hrow j hj
    have hblk : (a.add j).block = a.block := by unfold Addr.add; split <;> rfl
    refine ⟨a, b, ha, hb, h2, ?_⟩
    have hne : ∀ o, (⟨g, o, none⟩ : Addr) ≠ a.add j := fun o e => by have := congrArg Addr.block e; rw [hblk] at this; simp only at this; omega
    exact (World.cell?_setCell_other _ _ _ _ (hne 2)).trans ((World.cell?_setCell_other (w.drewN d1) _ _ _ (hne 1)).trans hc)
  · simpa [World.setCell] using hlt
  · simp [World.setCell]
  · intro i hi hne
    have h1 : i ≠ g := fun e => hne (by rw [e])
    exact (Below.heap_setCell _ ⟨g, 2, none⟩ _ i h1).trans (Below.heap_setCell (w.drewN d1) ⟨g, 1, none⟩ _ i h1)
/-- What next hands back. -/
def NextPost (B : Nat) (A : Option Addr) (n c g k m : Nat) (w : World) (e : Ending) (w' : World) : Prop :=
  ∃ v : Nat, v < m ∧ e = .returned (.int .i64 v) ∧ Cur B A n c g (k + 1) w' ∧ w.grownBy w' (some g)
set_option maxHeartbeats 800000 in
theorem next_any (B : Nat) (A : Option Addr) (n c g k : Nat) (w : World) (h : Cur B A n c g k w) (hk : k < 1000000) :
    Calls Tryd.prog 37 #[.pointer (some ⟨g, 0, none⟩)] w (NextPost B A n c g k 256 w) := by
  have HS := Lib.hid (fun d1 d2 x y hy => cur_step h d1 d2 x y hy)
  have HL := Lib.hid low8
  obtain ⟨hc0, hc1, ⟨u, hu, hc2⟩, hf1, hf2, hrow, hold, hlt⟩ := h
  by_cases hin : k < n
  · obtain ⟨a, b, rfl, ha, hb, hcell⟩ := hrow k hin
    go_enter Tryd.func37, Tryd.ntmps37
    go_wp2_with fail
    go_quiet (fail)
    go_wp2_with fail
    go_quiet (fail)
    go_wp2_with fail
    go_quiet (fail)
    go_wp2_with fail
    go_ret
    exact ⟨b, hb, rfl, HS.out _ _ _ _ rfl⟩
  · go_enter Tryd.func37, Tryd.ntmps37
    go_wp2_with fail
    go_quiet (fail)
    go_wp2_with fail
    go_quiet (fail)
    go_wp2_with fail
    go_ret
    obtain ⟨v, hv, he⟩ := HL.out (IntKind.u64.wrap (IntKind.u64.wrap (u * 6364136223846793005)) + 103131)
    refine ⟨v, hv, ?_, HS.out _ _ _ _ rfl⟩
    rw [← he]
    rfl
theorem grown_trans {a b c : World} {r : Option Nat} (h : a.grownBy b r) (k : b.grownBy c r) : a.grownBy c r :=
  ⟨k.os.trans h.os, k.tape.trans h.tape, k.output.trans h.output, Nat.le_trans h.size k.size, fun i hi hne => (k.block i (Nat.lt_of_lt_of_le hi h.size) hne).trans (h.block i hi hne)⟩
theorem Cur.kept {B : Nat} {A : Option Addr} {n c g k : Nat} {w w' : World} {r : Option Nat} (h : Cur B A n c g k w) (hg : w.grownBy w' r) (hne : some g ≠ r) (hB : ∀ i, r = some i → B ≤ i) : Cur B A n c g k w' := by
  obtain ⟨hc0, hc1, ⟨u0, hu0, hc2⟩, hf1, hf2, hrow, hold, hlt⟩ := h
  have hb := hg.block g hlt hne
  refine ⟨(World.cell?_of_block (a := ⟨g, 0, none⟩) hb).trans hc0, (World.cell?_of_block (a := ⟨g, 1, none⟩) hb).trans hc1, ⟨u0, hu0, (World.cell?_of_block (a := ⟨g, 2, none⟩) hb).trans hc2⟩, (World.frozen?_of_block (a := ⟨g, 1, none⟩) hb).trans hf1, (World.frozen?_of_block (a := ⟨g, 2, none⟩) hb).trans hf2, ?_, hold, Nat.lt_of_lt_of_le hlt hg.size⟩
  intro j hj
  obtain ⟨a, b, ha, hab, h2, hc⟩ := hrow j hj
  have hblk : (a.add j).block = a.block := by unfold Addr.add; split <;> rfl
  have hb2 := hg.block (a.add j).block (by rw [hblk]; omega) (fun e => by have := hB _ e.symm; rw [hblk] at this; omega)
  exact ⟨a, b, ha, hab, h2, (World.cell?_of_block hb2).trans hc⟩
theorem Cur.alloc {B : Nat} {A : Option Addr} {n c g k : Nat} {w : World} (h : Cur B A n c g k w) (o : Obj) : Cur B A n c g k (w.alloc o) :=
  h.kept (World.grownBy_alloc w o none) (by simp) (fun _ e => by cases e)
/-- The bytes of the code, as the reader needs them. -/
def CodeRow (B : Nat) (A : Option Addr) (n : Nat) (w : World) : Prop := ∀ j, j < n → ∃ (a : Addr) (b : Nat), A = some a ∧ a.block < B ∧ b < 256 ∧ w.cell? (a.add j) = some (.int .u8 b)
theorem cur_new (w : World) (A : Option Addr) (n c : Nat) (T : TypeId) (h : CodeRow w.heap.size A n w) : Cur w.heap.size A n c w.heap.size 0 (w.alloc (.cells #[.slice A n c, .int .i64 0, .int .u64 0] T)) := by
  refine ⟨World.cell?_alloc_new _ _ _ _, World.cell?_alloc_new _ _ _ _, ⟨0, by decide, World.cell?_alloc_new _ _ _ _⟩, World.frozen?_alloc_at _ _ _ _ rfl, World.frozen?_alloc_at _ _ _ _ rfl, ?_, Nat.le_refl _, by simp⟩
  intro j hj
  obtain ⟨a, b, ha, hab, h2, hc⟩ := h j hj
  have hblk : (a.add j).block = a.block := by unfold Addr.add; split <;> rfl
  exact ⟨a, b, ha, hab, h2, (World.cell?_alloc_lt _ _ _ (by rw [hblk]; exact hab)).trans hc⟩

/-! ### pick, one, of, any1 -/
theorem pick_any (B : Nat) (A : Option Addr) (n c g k m : Nat) (w : World) (h : Cur B A n c g k w) (hk : k < 1000000) (h1 : 1 < m) (h2 : m ≤ 200) :
    Calls Tryd.prog 22 #[.pointer (some ⟨g, 0, none⟩), .int .i64 m] w (NextPost B A n c g k m w) := by
  have HN := Lib.hid (next_any B A n c g k w h hk)
  clear h
  go_enter Tryd.func22, Tryd.ntmps22
  go_wp2_with (go_at_call 37; refine HN.out.mono ?_; rintro e w' ⟨v, hv, rfl, hc, hg⟩; have HC := Lib.hid hc; have HG := Lib.hid hg; clear hc hg)
  go_ret
  exact ⟨v % m, Nat.mod_lt _ (by omega), by (try simp only [Int.natCast_emod]); rfl, HC.out, HG.out⟩
def OnePost (B : Nat) (A : Option Addr) (n c g k : Nat) (w : World) (e : Ending) (w' : World) : Prop :=
  ∃ b : Bool, e = .returned (.bool b) ∧ Cur B A n c g (k + 1) w' ∧ w.grownBy w' (some g)
theorem one_any (B : Nat) (A : Option Addr) (n c g k m : Nat) (w : World) (h : Cur B A n c g k w) (hk : k < 1000000) (h1 : 1 < m) (h2 : m ≤ 200) :
    Calls Tryd.prog 26 #[.pointer (some ⟨g, 0, none⟩), .int .i64 m] w (OnePost B A n c g k w) := by
  have HN := Lib.hid (pick_any B A n c g k m w h hk h1 h2)
  clear h
  go_enter Tryd.func26, Tryd.ntmps26
  go_wp2_with (go_at_call 22; refine HN.out.mono ?_; rintro e w' ⟨v, hv, rfl, hc, hg⟩; have HC := Lib.hid hc; have HG := Lib.hid hg; clear hc hg)
  go_ret
  exact ⟨_, rfl, HC.out, HG.out⟩
def TextPost (p : ByteArray → Prop) (B : Nat) (A : Option Addr) (n c g k : Nat) (w : World) (e : Ending) (w' : World) : Prop :=
  ∃ x, p x ∧ e = .returned (.string x) ∧ Cur B A n c g (k + 1) w' ∧ w.grownBy w' (some g)
theorem of_any (p : ByteArray → Prop) (B : Nat) (A : Option Addr) (n c g k b cap : Nat) (xs : List ByteArray) (w : World) (h : Cur B A n c g k w) (hk : k < 1000000) (h1 : 1 < xs.length) (h2 : xs.length ≤ 200)
    (hc : Cells w b 0 xs) (hb : b < w.heap.size) (hbg : b ≠ g) (hp : ∀ x ∈ xs, p x) :
    Calls Tryd.prog 27 #[.pointer (some ⟨g, 0, none⟩), .slice (some ⟨b, 0, none⟩) xs.length cap] w (TextPost p B A n c g k w) := by
  have HN := Lib.hid (pick_any B A n c g k xs.length w h hk h1 h2)
  have HP := Lib.hid hp
  have HC0 := Lib.hid hc
  clear h hp hc
  go_enter Tryd.func27, Tryd.ntmps27
  go_wp2_with (go_at_call 22; refine HN.out.mono ?_; rintro e w' ⟨v, hv, rfl, hc, hg⟩; have HC := Lib.hid hc; have HG := Lib.hid hg; have hcell := (World.cell?_of_block (a := ⟨b, v, none⟩) (hg.block b hb (fun e => hbg (Option.some.inj e)))).trans ((by simpa using HC0.out.at_ v hv) : w.cell? ⟨b, v, none⟩ = some (.string xs[v])); clear hc hg)
  go_ret
  exact ⟨xs[v], HP.out _ (List.getElem_mem hv), rfl, HC.out, HG.out⟩
theorem cells_made (w : World) (xs : List ByteArray) (T : TypeId) : Cells (w.alloc (.cells (xs.map Value.string).toArray T)) w.heap.size 0 xs := fun j x hx => by
  rw [World.cell?_alloc_new, Nat.zero_add]
  simp [hx]
/-- A short text. -/
def Short (x : ByteArray) : Prop := x.size ≤ 10
theorem any1_any (B : Nat) (A : Option Addr) (n c g k : Nat) (w : World) (h : Cur B A n c g k w) (hk : k < 1000000) :
    Calls Tryd.prog 30 #[.pointer (some ⟨g, 0, none⟩)] w (TextPost Short B A n c g k w) := by
  have hlt := h.lt
  have HN := Lib.hid (of_any Short B A n c g k w.heap.size 9 [⟨#[]⟩, ⟨#[97]⟩, ⟨#[97, 44, 98]⟩, ⟨#[115, 111, 109, 101, 32, 119, 111, 114, 100, 115]⟩, ⟨#[120, 35, 121]⟩, ⟨#[45, 49, 50]⟩, ⟨#[0, 255]⟩, ⟨#[44, 44]⟩, ⟨#[48]⟩] _ (h.alloc _) hk (by decide) (by decide) (cells_made w _ 9) (by simp) (by omega) (by
    intro x hx
    simp only [List.mem_cons, List.not_mem_nil, or_false] at hx
    unfold Short
    rcases hx with rfl | rfl | rfl | rfl | rfl | rfl | rfl | rfl | rfl <;> decide))
  clear h
  go_enter Tryd.func30, Tryd.ntmps30
  go_wp2_with (go_at_call 27; refine HN.out.mono ?_; rintro e w' ⟨x, hx, rfl, hc, hg⟩; have HC := Lib.hid hc; have HG := Lib.hid hg; clear hc hg)
  go_ret
  exact ⟨x, hx, rfl, HC.out, grown_trans (World.grownBy_alloc _ _ _) HG.out⟩

/-! ### The draws of the laws -/
theorem of_made (p : ByteArray → Prop) (B : Nat) (A : Option Addr) (n c g k cap : Nat) (xs : List ByteArray) (w : World) (h : Cur B A n c g k w) (hk : k < 1000000) (h1 : 1 < xs.length) (h2 : xs.length ≤ 200) (hp : ∀ x ∈ xs, p x) :
    Calls Tryd.prog 27 #[.pointer (some ⟨g, 0, none⟩), .slice (some ⟨w.heap.size, 0, none⟩) xs.length cap] (w.alloc (.cells (xs.map Value.string).toArray 9)) (TextPost p B A n c g k w) := by
  have hlt := h.lt
  refine (of_any p B A n c g k w.heap.size cap xs _ (h.alloc _) hk h1 h2 (cells_made w xs 9) (by simp) (by omega) hp).mono ?_
  rintro e w' ⟨x, hx, he, hc, hg⟩
  exact ⟨x, hx, he, hc, grown_trans (World.grownBy_alloc _ _ _) hg⟩
theorem below_of {w w1 w2 : World} {g : Nat} (h : Below g w w1) (hg : w1.grownBy w2 (some g)) (hs : g ≤ w1.heap.size) : Below g w w2 :=
  h.grown hg hs (fun k e => by cases e; exact Nat.le_refl _)
theorem info5 : (Tryd.prog.info? 5).map (fun i => (i.zero, i.size, i.bytes)) = some (some (.int .u8 0), 1, 1) := by kernel_rfl
theorem zeros_text (w : World) (g cap n : Nat) (B : Nat) (h : w.ownsRow B 5 1 (.slice (some ⟨g, 0, none⟩) n cap) n (List.replicate n (.int .u8 0))) :
    ∃ z : ByteArray, z.size = n ∧ (convert 22 9 (.slice (some ⟨g, 0, none⟩) n cap)).run Tryd.prog w = .ok (.string z) w := by
  refine ⟨⟨(List.replicate n (0 : UInt8)).toArray⟩, by simp [ByteArray.size], ?_⟩
  have e := run_convert_bytes_back (P := Tryd.prog) w 22 9 5 ⟨g, 0, none⟩ cap (List.replicate n (0 : UInt8)) Tryd.underlying22 Tryd.underlying5 Tryd.underlying9 (fun j hj => by
    have hj2 : j < n := by simpa using hj
    rw [Lib.add_plain, Nat.zero_add, h.cellAt j (by omega)]
    simp [hj2])
  rw [List.length_replicate] at e
  exact e
theorem zeros_made {w : World} {B g z : Nat} (h : w.ownsRow B 5 1 (.slice (some ⟨g, 0, none⟩) (3990 + z) (3990 + z)) (3990 + z) (madeCells (Value.int .u8 0).cells ((3990 + z) * 1)).toList) :
    ∃ t : ByteArray, t.size = 3990 + z ∧ (convert 22 9 (.slice (some ⟨g, 0, none⟩) (3990 + z) (3990 + z))).run Tryd.prog w = .ok (.string t) w := by
  refine zeros_text w g (3990 + z) (3990 + z) B ?_
  have e : (madeCells (Value.int .u8 0).cells ((3990 + z) * 1)).toList = List.replicate (3990 + z) (.int .u8 0) := by
    rw [Nat.mul_one]
    show (madeCells #[Value.int .u8 0] (3990 + z)).toList = _
    rw [toList_madeCells_one]
  rw [← e]; exact h
end Go.Proofs.YtcnpbhbhklmifaaDoor
