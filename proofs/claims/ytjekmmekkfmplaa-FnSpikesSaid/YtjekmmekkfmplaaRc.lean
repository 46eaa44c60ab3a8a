/-
  Contracts of spec.l1Cur.next, .pick, .one, .among over this translation. Conditions: stated at each theorem.
-/
import Derived.Test.YtjekmmekkfmplaaBase
import Derived.Laws.Bits64b
namespace Go.Proofs.Ytjekmmekkfmplaa
open Go.RowKit Go.Sort

/-- Block g is the reader, which stands at k, over n bytes from A on, which lie below block B. -/
structure Cur (B : Nat) (A : Option Addr) (n c g k : Nat) (w : World) : Prop where
  code : w.cell? ⟨g, 0, none⟩ = some (.slice A n c)
  pos : w.cell? ⟨g, 1, none⟩ = some (.int .i64 k)
  seed : ∃ u : Nat, u < 18446744073709551616 ∧ w.cell? ⟨g, 2, none⟩ = some (.int .u64 u)
  free1 : w.frozen? ⟨g, 1, none⟩ = false
  free2 : w.frozen? ⟨g, 2, none⟩ = false
  row : ∀ j, j < n → ∃ (a : Addr) (b : Nat), A = some a ∧ a.block < B ∧ b < 256 ∧ w.cell? (a.add j) = some (.int .u8 b)
  old : B ≤ g
  lt : g < w.heap.size

theorem u64_wrap (x : Int) : ∃ u : Nat, u < 18446744073709551616 ∧ IntKind.u64.wrap x = u := by
  have h := IntKind.wrap_u64 x
  exact ⟨(IntKind.u64.wrap x).toNat, by rw [h]; omega, by rw [h]; omega⟩

theorem low8 (x : Int) : ∃ v : Nat, v < 256 ∧ wrap64 (bits BinOp.and IntKind.u64 (IntKind.u64.wrap x / 1099511627776) 255) = v := by
  obtain ⟨u, hu, he⟩ := u64_wrap x
  rw [he]
  have h := bits_and_u64_nat (u / 1099511627776) 255 (by omega) (by decide)
  rw [Int.natCast_ediv] at h
  rw [show ((255 : Nat) : Int) = 255 from rfl, show ((1099511627776 : Nat) : Int) = 1099511627776 from rfl] at h
  rw [h]
  have hm : (u / 1099511627776) &&& 255 = (u / 1099511627776) % 256 := Nat.and_two_pow_sub_one_eq_mod _ 8
  rw [hm]
  exact ⟨(u / 1099511627776) % 256, by omega, by unfold wrap64; omega⟩
theorem cur_step {B : Nat} {A : Option Addr} {n c g k : Nat} {w : World} (h : Cur B A n c g k w) (d1 d2 : Nat) (x : Int) (y : Int) (hy : y = (k : Int) + 1) :
    Cur B A n c g (k + 1) ((((w.drewN d1).setCell ⟨g, 1, none⟩ (.int .i64 y)).setCell ⟨g, 2, none⟩ (.int .u64 (IntKind.u64.wrap x))).drewN d2) ∧
    w.grownBy ((((w.drewN d1).setCell ⟨g, 1, none⟩ (.int .i64 y)).setCell ⟨g, 2, none⟩ (.int .u64 (IntKind.u64.wrap x))).drewN d2) (some g) := by
  subst hy
  obtain ⟨u, hu, he⟩ := u64_wrap x
  rw [he]
  obtain ⟨hc0, hc1, ⟨u0, hu0, hc2⟩, hf1, hf2, hrow, hold, hlt⟩ := h
  have e1 : ((w.drewN d1).setCell ⟨g, 1, none⟩ (.int .i64 ((k : Int) + 1))).cell? ⟨g, 1, none⟩ = some (.int .i64 ((k : Int) + 1)) := World.cell?_setCell_same (w.drewN d1) _ _ hc1
  have e2 : ((w.drewN d1).setCell ⟨g, 1, none⟩ (.int .i64 ((k : Int) + 1))).cell? ⟨g, 2, none⟩ = some (.int .u64 u0) := (World.cell?_setCell_other (w.drewN d1) _ _ _ (by simp)).trans hc2
  refine ⟨⟨?_, ?_, ⟨u, hu, ?_⟩, ?_, ?_, ?_, hold, ?_⟩, rfl, rfl, rfl, ?_, ?_⟩
  · exact (World.cell?_setCell_other _ _ _ _ (by simp)).trans ((World.cell?_setCell_other (w.drewN d1) _ _ _ (by simp)).trans hc0)
  · exact (World.cell?_setCell_other _ _ _ _ (by simp)).trans e1
  · exact World.cell?_setCell_same _ _ _ e2
  · exact (World.frozen?_setCell _ _ _ _).trans ((World.frozen?_setCell _ _ _ _).trans hf1)
  · exact (World.frozen?_setCell _ _ _ _).trans ((World.frozen?_setCell _ _ _ _).trans hf2)
  · intro j hj
    obtain ⟨a, b, ha, hb, h2, hc⟩ := hrow j hj
    have hblk : (a.add j).block = a.block := by unfold Addr.add; split <;> rfl
    refine ⟨a, b, ha, hb, h2, ?_⟩
    have hne : ∀ o, (⟨g, o, none⟩ : Addr) ≠ a.add j := fun o e => by have := congrArg Addr.block e; rw [hblk] at this; simp only at this; omega
    exact (World.cell?_setCell_other _ _ _ _ (hne 2)).trans ((World.cell?_setCell_other (w.drewN d1) _ _ _ (hne 1)).trans hc)
  · simpa [World.setCell] using hlt
  · simp [World.setCell]
  · intro i hi hne
    have h1 : i ≠ g := fun e => hne (by rw [e])
    exact (Below.heap_setCell _ ⟨g, 2, none⟩ _ i h1).trans (Below.heap_setCell (w.drewN d1) ⟨g, 1, none⟩ _ i h1)
/-- What next hands back. -/
def NextPost (B : Nat) (A : Option Addr) (n c g k m : Nat) (w : World) (e : Ending) (w' : World) : Prop :=
  ∃ v : Nat, v < m ∧ e = .returned (.int .i64 v) ∧ Cur B A n c g (k + 1) w' ∧ w.grownBy w' (some g)
set_option maxHeartbeats 800000 in
theorem next_any (B : Nat) (A : Option Addr) (n c g k : Nat) (w : World) (h : Cur B A n c g k w) (hk : k < 1000000) :
    Calls Try.prog 86 #[.pointer (some ⟨g, 0, none⟩)] w (NextPost B A n c g k 256 w) := by
  have HS := Lib.hid (fun d1 d2 x y hy => cur_step h d1 d2 x y hy)
  have HL := Lib.hid low8
  obtain ⟨hc0, hc1, ⟨u, hu, hc2⟩, hf1, hf2, hrow, hold, hlt⟩ := h
  by_cases hin : k < n
  · obtain ⟨a, b, rfl, ha, hb, hcell⟩ := hrow k hin
    go_enter Try.func86, Try.ntmps86
    go_wp2_with fail
    go_quiet (fail)
    go_wp2_with fail
    go_quiet (fail)
    go_wp2_with fail
    go_quiet (fail)
    go_wp2_with fail
    go_ret
    exact ⟨b, hb, rfl, HS.out _ _ _ _ rfl⟩
  · go_enter Try.func86, Try.ntmps86
    go_wp2_with fail
    go_quiet (fail)
    go_wp2_with fail
    go_quiet (fail)
    go_wp2_with fail
    go_ret
    obtain ⟨v, hv, he⟩ := HL.out (IntKind.u64.wrap (IntKind.u64.wrap (u * 6364136223846793005)) + 103131)
    refine ⟨v, hv, ?_, HS.out _ _ _ _ rfl⟩
    rw [← he]
    rfl
theorem grown_trans {a b c : World} {r : Option Nat} (h : a.grownBy b r) (k : b.grownBy c r) : a.grownBy c r :=
  ⟨k.os.trans h.os, k.tape.trans h.tape, k.output.trans h.output, Nat.le_trans h.size k.size, fun i hi hne => (k.block i (Nat.lt_of_lt_of_le hi h.size) hne).trans (h.block i hi hne)⟩
theorem Cur.kept {B : Nat} {A : Option Addr} {n c g k : Nat} {w w' : World} {r : Option Nat} (h : Cur B A n c g k w) (hg : w.grownBy w' r) (hne : some g ≠ r) (hB : ∀ i, r = some i → B ≤ i) : Cur B A n c g k w' := by
  obtain ⟨hc0, hc1, ⟨u0, hu0, hc2⟩, hf1, hf2, hrow, hold, hlt⟩ := h
  have hb := hg.block g hlt hne
  refine ⟨(World.cell?_of_block (a := ⟨g, 0, none⟩) hb).trans hc0, (World.cell?_of_block (a := ⟨g, 1, none⟩) hb).trans hc1, ⟨u0, hu0, (World.cell?_of_block (a := ⟨g, 2, none⟩) hb).trans hc2⟩, (World.frozen?_of_block (a := ⟨g, 1, none⟩) hb).trans hf1, (World.frozen?_of_block (a := ⟨g, 2, none⟩) hb).trans hf2, ?_, hold, Nat.lt_of_lt_of_le hlt hg.size⟩
  intro j hj
  obtain ⟨a, b, ha, hab, h2, hc⟩ := hrow j hj
  have hblk : (a.add j).block = a.block := by unfold Addr.add; split <;> rfl
  have hb2 := hg.block (a.add j).block (by rw [hblk]; omega) (fun e => by have := hB _ e.symm; rw [hblk] at this; omega)
  exact ⟨a, b, ha, hab, h2, (World.cell?_of_block hb2).trans hc⟩
theorem Cur.alloc {B : Nat} {A : Option Addr} {n c g k : Nat} {w : World} (h : Cur B A n c g k w) (o : Obj) : Cur B A n c g k (w.alloc o) :=
  h.kept (World.grownBy_alloc w o none) (by simp) (fun _ e => by cases e)
/-- The bytes of the code, as the reader needs them. -/
def CodeRow (B : Nat) (A : Option Addr) (n : Nat) (w : World) : Prop := ∀ j, j < n → ∃ (a : Addr) (b : Nat), A = some a ∧ a.block < B ∧ b < 256 ∧ w.cell? (a.add j) = some (.int .u8 b)
theorem cur_new (w : World) (A : Option Addr) (n c : Nat) (T : TypeId) (h : CodeRow w.heap.size A n w) : Cur w.heap.size A n c w.heap.size 0 (w.alloc (.cells #[.slice A n c, .int .i64 0, .int .u64 0] T)) := by
  refine ⟨World.cell?_alloc_new _ _ _ _, World.cell?_alloc_new _ _ _ _, ⟨0, by decide, World.cell?_alloc_new _ _ _ _⟩, World.frozen?_alloc_at _ _ _ _ rfl, World.frozen?_alloc_at _ _ _ _ rfl, ?_, Nat.le_refl _, by simp⟩
  intro j hj
  obtain ⟨a, b, ha, hab, h2, hc⟩ := h j hj
  have hblk : (a.add j).block = a.block := by unfold Addr.add; split <;> rfl
  exact ⟨a, b, ha, hab, h2, (World.cell?_alloc_lt _ _ _ (by rw [hblk]; exact hab)).trans hc⟩

/-! ### pick, one -/
theorem pick_any (B : Nat) (A : Option Addr) (n c g k m : Nat) (w : World) (h : Cur B A n c g k w) (hk : k < 1000000) (h1 : 1 < m) (h2 : m ≤ 200) :
    Calls Try.prog 72 #[.pointer (some ⟨g, 0, none⟩), .int .i64 m] w (NextPost B A n c g k m w) := by
  have HN := Lib.hid (next_any B A n c g k w h hk)
  clear h
  go_enter Try.func72, Try.ntmps72
  go_wp2_with (go_at_call 86; refine HN.out.mono ?_; rintro e w' ⟨v, hv, rfl, hc, hg⟩; have HC := Lib.hid hc; have HG := Lib.hid hg; clear hc hg)
  go_ret
  exact ⟨v % m, Nat.mod_lt _ (by omega), by (try simp only [Int.natCast_emod]); rfl, HC.out, HG.out⟩
def OnePost (B : Nat) (A : Option Addr) (n c g k : Nat) (w : World) (e : Ending) (w' : World) : Prop :=
  ∃ b : Bool, e = .returned (.bool b) ∧ Cur B A n c g (k + 1) w' ∧ w.grownBy w' (some g)
theorem one_any (B : Nat) (A : Option Addr) (n c g k m : Nat) (w : World) (h : Cur B A n c g k w) (hk : k < 1000000) (h1 : 1 < m) (h2 : m ≤ 200) :
    Calls Try.prog 80 #[.pointer (some ⟨g, 0, none⟩), .int .i64 m] w (OnePost B A n c g k w) := by
  have HN := Lib.hid (pick_any B A n c g k m w h hk h1 h2)
  clear h
  go_enter Try.func80, Try.ntmps80
  go_wp2_with (go_at_call 72; refine HN.out.mono ?_; rintro e w' ⟨v, hv, rfl, hc, hg⟩; have HC := Lib.hid hc; have HG := Lib.hid hg; clear hc hg)
  go_ret
  exact ⟨_, rfl, HC.out, HG.out⟩
/-! ### among -/
def AmongPost (p : Int → Prop) (B : Nat) (A : Option Addr) (n c g k : Nat) (w : World) (e : Ending) (w' : World) : Prop :=
  ∃ x, p x ∧ e = .returned (.int .i64 x) ∧ Cur B A n c g (k + 1) w' ∧ w.grownBy w' (some g)
theorem among_any (p : Int → Prop) (B : Nat) (A : Option Addr) (n c g k b cap : Nat) (xs : List Int) (w : World) (h : Cur B A n c g k w) (hk : k < 1000000) (h1 : 1 < xs.length) (h2 : xs.length ≤ 200)
    (hc : ∀ j x, xs[j]? = some x → w.cell? ⟨b, j, none⟩ = some (.int .i64 x)) (hb : b < w.heap.size) (hbg : b ≠ g) (hp : ∀ x ∈ xs, p x) :
    Calls Try.prog 71 #[.pointer (some ⟨g, 0, none⟩), .slice (some ⟨b, 0, none⟩) xs.length cap] w (AmongPost p B A n c g k w) := by
  have HN := Lib.hid (pick_any B A n c g k xs.length w h hk h1 h2)
  have HP := Lib.hid hp
  have HC0 := Lib.hid hc
  clear h hp hc
  go_enter Try.func71, Try.ntmps71
  go_wp2_with (go_at_call 72; refine HN.out.mono ?_; rintro e w' ⟨v, hv, rfl, hc, hg⟩; have HC := Lib.hid hc; have HG := Lib.hid hg; have hcell := (World.cell?_of_block (a := ⟨b, v, none⟩) (hg.block b hb (fun e => hbg (Option.some.inj e)))).trans (HC0.out v xs[v] (List.getElem?_eq_getElem hv)); clear hc hg)
  go_ret
  exact ⟨xs[v], HP.out _ (List.getElem_mem hv), rfl, HC.out, HG.out⟩
theorem among_made (p : Int → Prop) (B : Nat) (A : Option Addr) (n c g k cap : Nat) (xs : List Int) (w : World) (h : Cur B A n c g k w) (hk : k < 1000000) (h1 : 1 < xs.length) (h2 : xs.length ≤ 200) (hp : ∀ x ∈ xs, p x) :
    Calls Try.prog 71 #[.pointer (some ⟨g, 0, none⟩), .slice (some ⟨w.heap.size, 0, none⟩) xs.length cap] (w.alloc (.cells (xs.map (Value.int .i64)).toArray 3)) (AmongPost p B A n c g k w) := by
  have hlt := h.lt
  refine (among_any p B A n c g k w.heap.size cap xs _ (h.alloc _) hk h1 h2 (fun j x hx => by rw [World.cell?_alloc_new]; simp [hx]) (by simp) (by omega) hp).mono ?_
  rintro e w' ⟨x, hx, he, hc, hg⟩
  exact ⟨x, hx, he, hc, grown_trans (World.grownBy_alloc _ _ _) hg⟩
theorem among_at (p : Int → Prop) (B : Nat) (A : Option Addr) (n c g k b cap : Nat) (xs : List Int) (w : World) (h : Cur B A n c g k w) (hb : b = w.heap.size) (hk : k < 1000000) (h1 : 1 < xs.length) (h2 : xs.length ≤ 200) (hp : ∀ x ∈ xs, p x) :
    Calls Try.prog 71 #[.pointer (some ⟨g, 0, none⟩), .slice (some ⟨b, 0, none⟩) xs.length cap] (w.alloc (.cells (xs.map (Value.int .i64)).toArray 3)) (AmongPost p B A n c g k w) := by
  subst hb; exact among_made p B A n c g k cap xs w h hk h1 h2 hp
/-- Any number. -/
def AnyI (_ : Int) : Prop := True
/-- A number that is drawn. -/
def Low (x : Int) : Prop := -2 ≤ x ∧ x ≤ 1600
theorem grown_put {w w1 : World} {g gb : Nat} (h : w.grownBy w1 (some g)) (hb : w.heap.size ≤ gb) (j : Nat) (u : Value) : w.grownBy (w1.setCell ⟨gb, j, none⟩ u) (some g) :=
  ⟨h.os, h.tape, h.output, by simpa [World.setCell] using h.size, fun i hi hne => (Below.heap_setCell w1 ⟨gb, j, none⟩ u i (by simp; omega)).trans (h.block i hi hne)⟩
theorem set_grown (w : World) (gb j : Nat) (u : Value) : w.grownBy (w.setCell ⟨gb, j, none⟩ u) (some gb) :=
  ⟨rfl, rfl, rfl, by simp [World.setCell], fun i _ hne => Below.heap_setCell w ⟨gb, j, none⟩ u i (by simp; intro e; exact hne (by rw [e]))⟩
theorem Cur.set {B : Nat} {A : Option Addr} {n c g k : Nat} {w : World} (h : Cur B A n c g k w) {gb : Nat} (hne : gb ≠ g) (hB : B ≤ gb) (j : Nat) (u : Value) : Cur B A n c g k (w.setCell ⟨gb, j, none⟩ u) :=
  h.kept (set_grown w gb j u) (fun e => hne (Option.some.inj e).symm) (fun i e => by have := Option.some.inj e; omega)
/-! ### What stays in a region that draws its order -/
theorem kD {w W : World} {a : Addr} {v : Value} {r : Option Nat} (h : W.cell? a = some v ∧ Hid (w.grownBy W r)) : W.drew.cell? a = some v ∧ Hid (w.grownBy W.drew r) :=
  ⟨h.1, Lib.hid ⟨h.2.out.os, h.2.out.tape, h.2.out.output, h.2.out.size, h.2.out.block⟩⟩
theorem kA {w W : World} {a : Addr} {v : Value} {r : Option Nat} (h : W.cell? a = some v ∧ Hid (w.grownBy W r)) (o : Obj) : (W.alloc o).cell? a = some v ∧ Hid (w.grownBy (W.alloc o) r) :=
  ⟨cell_next ((Below.refl _ _).alloc (Nat.le_refl _) o) h.1, Lib.hid (grown_trans h.2.out (World.grownBy_alloc W o r))⟩
theorem kS {w W : World} {a : Addr} {v : Value} {g : Nat} (h : W.cell? a = some v ∧ Hid (w.grownBy W (some g))) {gb j : Nat} (hb : w.heap.size ≤ gb) (hne : a ≠ ⟨gb, j, none⟩) (u : Value) : (W.setCell ⟨gb, j, none⟩ u).cell? a = some v ∧ Hid (w.grownBy (W.setCell ⟨gb, j, none⟩ u) (some g)) :=
  ⟨(World.cell?_setCell_other _ _ _ _ (fun e => hne (by first | exact e | exact e.symm))).trans h.1, Lib.hid (grown_put h.2.out hb j u)⟩
theorem among_drew (p : Int → Prop) (B : Nat) (A : Option Addr) (n c g k b cap : Nat) (xs : List Int) (w : World) (h : Cur B A n c g k w) (hb : b = w.heap.size) (hk : k < 1000000) (h1 : 1 < xs.length) (h2 : xs.length ≤ 200) (hp : ∀ x ∈ xs, p x) :
    Calls Try.prog 71 #[.pointer (some ⟨g, 0, none⟩), .slice (some ⟨b, 0, none⟩) xs.length cap] ((w.alloc (.cells (xs.map (Value.int .i64)).toArray 3)).drew) (AmongPost p B A n c g k w) := by
  subst hb
  have hd : Cur B A n c g k w.drew := ⟨h.code, h.pos, h.seed, h.free1, h.free2, h.row, h.old, h.lt⟩
  refine Calls.mono (among_made p B A n c g k cap xs w.drew hd hk h1 h2 hp) ?_
  rintro e w' ⟨x, hx, he, hc, hg⟩
  exact ⟨x, hx, he, hc, ⟨hg.os, hg.tape, hg.output, hg.size, hg.block⟩⟩
theorem CodeRow.below {B : Nat} {A : Option Addr} {n : Nat} {w w' : World} (h : CodeRow B A n w) (hb : Below B w w') {B' : Nat} (hB : B ≤ B') : CodeRow B' A n w' := fun j hj => by
  obtain ⟨a, b, ha, hab, h2, hc⟩ := h j hj
  have hblk : (a.add j).block = a.block := by unfold Addr.add; split <;> rfl
  exact ⟨a, b, ha, Nat.lt_of_lt_of_le hab hB, h2, (hb.cell (by rw [hblk]; exact hab)).trans hc⟩
theorem below_of {w w1 w2 : World} {B g : Nat} (h : Below B w w1) (hg : w1.grownBy w2 (some g)) (hs : B ≤ w1.heap.size) (hB : B ≤ g) : Below B w w2 :=
  h.grown hg hs (fun k e => by have := Option.some.inj e; omega)
end Go.Proofs.Ytjekmmekkfmplaa
