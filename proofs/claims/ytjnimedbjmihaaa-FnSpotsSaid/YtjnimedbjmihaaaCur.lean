/-
  Contracts of spec.l1Cur.next, .pick, .one, .among, .spot, .box and of the draws of laws.FnBoxes over this translation. Conditions: stated at each theorem.
-/
import Derived.Test.YtjnimedbjmihaaaIn
import Derived.Laws.Bits64b
namespace Go.Proofs.Ytjnimedbjmihaaa
open Go.RowKit Go.Sort

/-- Block g is the reader, which stands at k, over n bytes from A on, which lie below block B. -/
structure Cur (B : Nat) (A : Option Addr) (n c g k : Nat) (w : World) : Prop where
  code : w.cell? ⟨g, 0, none⟩ = some (.slice A n c)
  pos : w.cell? ⟨g, 1, none⟩ = some (.int .i64 k)
  seed : ∃ u : Nat, u < 18446744073709551616 ∧ w.cell? ⟨g, 2, none⟩ = some (.int .u64 u)
  free1 : w.frozen? ⟨g, 1, none⟩ = false
  free2 : w.frozen? ⟨g, 2, none⟩ = false
  row : ∀ j, j < n → ∃ (a : Addr) (b : Nat), A = some a ∧ a.block < B ∧ b < 256 ∧ w.cell? (a.add j) = some (.int .u8 b)
  old : B ≤ g
  lt : g < w.heap.size

theorem u64_wrap (x : Int) : ∃ u : Nat, u < 18446744073709551616 ∧ IntKind.u64.wrap x = u := by
  have h := IntKind.wrap_u64 x
  exact ⟨(IntKind.u64.wrap x).toNat, by rw [h]; omega, by rw [h]; omega⟩

theorem low8 (x : Int) : ∃ v : Nat, v < 256 ∧ wrap64 (bits BinOp.and IntKind.u64 (IntKind.u64.wrap x / 1099511627776) 255) = v := by
  obtain ⟨u, hu, he⟩ := u64_wrap x
  rw [he]
  have h := bits_and_u64_nat (u / 1099511627776) 255 (by omega) (by decide)
  rw [Int.natCast_ediv] at h
  rw [show ((255 : Nat) : Int) = 255 from rfl, show ((1099511627776 : Nat) : Int) = 1099511627776 from rfl] at h
  rw [h]
  have hm : (u / 1099511627776) &&& 255 = (u / 1099511627776) % 256 := Nat.and_two_pow_sub_one_eq_mod _ 8
  rw [hm]
  exact ⟨(u / 1099511627776) % 256, by omega, by unfold wrap64; omega⟩
theorem cur_step {B : Nat} {A : Option Addr} {n c g k : Nat} {w : World} (h : Cur B A n c g k w) (d1 d2 : Nat) (x : Int) (y : Int) (hy : y = (k : Int) + 1) :
    Cur B A n c g (k + 1) ((((w.drewN d1).setCell ⟨g, 1, none⟩ (.int .i64 y)).setCell ⟨g, 2, none⟩ (.int .u64 (IntKind.u64.wrap x))).drewN d2) ∧
    w.grownBy ((((w.drewN d1).setCell ⟨g, 1, none⟩ (.int .i64 y)).setCell ⟨g, 2, none⟩ (.int .u64 (IntKind.u64.wrap x))).drewN d2) (some g) := by
  subst hy
  obtain ⟨u, hu, he⟩ := u64_wrap x
  rw [he]
  obtain ⟨hc0, hc1, ⟨u0, hu0, hc2⟩, hf1, hf2, hrow, hold, hlt⟩ := h
  have e1 : ((w.drewN d1).setCell ⟨g, 1, none⟩ (.int .i64 ((k : Int) + 1))).cell? ⟨g, 1, none⟩ = some (.int .i64 ((k : Int) + 1)) := World.cell?_setCell_same (w.drewN d1) _ _ hc1
  have e2 : ((w.drewN d1).setCell ⟨g, 1, none⟩ (.int .i64 ((k : Int) + 1))).cell? ⟨g, 2, none⟩ = some (.int .u64 u0) := (World.cell?_setCell_other (w.drewN d1) _ _ _ (by simp)).trans hc2
  refine ⟨⟨?_, ?_, ⟨u, hu, ?_⟩, ?_, ?_, ?_, hold, ?_⟩, rfl, rfl, rfl, ?_, ?_⟩
  · exact (World.cell?_setCell_other _ _ _ _ (by simp)).trans ((World.cell?_setCell_other (w.drewN d1) _ _ _ (by simp)).trans hc0)
  · exact (World.cell?_setCell_other _ _ _ _ (by simp)).trans e1
  · exact World.cell?_setCell_same _ _ _ e2
  · exact (World.frozen?_setCell _ _ _ _).trans ((World.frozen?_setCell _ _ _ _).trans hf1)
  · exact (World.frozen?_setCell _ _ _ _).trans ((World.frozen?_setCell _ _ _ _).trans hf2)
  · intro j hj
    obtain ⟨a, b, ha, hb, h2, hc⟩ := hrow j hj
    have hblk : (a.add j).block = a.block := by unfold Addr.add; split <;> rfl
    refine ⟨a, b, ha, hb, h2, ?_⟩
    have hne : ∀ o, (⟨g, o, none⟩ : Addr) ≠ a.add j := fun o e => by have := congrArg Addr.block e; rw [hblk] at this; simp only at this; omega
    exact (World.cell?_setCell_other _ _ _ _ (hne 2)).trans ((World.cell?_setCell_other (w.drewN d1) _ _ _ (hne 1)).trans hc)
  · simpa [World.setCell] using hlt
  · simp [World.setCell]
  · intro i hi hne
    have h1 : i ≠ g := fun e => hne (by rw [e])
    exact (Below.heap_setCell _ ⟨g, 2, none⟩ _ i h1).trans (Below.heap_setCell (w.drewN d1) ⟨g, 1, none⟩ _ i h1)
/-- What next hands back. -/
def NextPost (B : Nat) (A : Option Addr) (n c g k m : Nat) (w : World) (e : Ending) (w' : World) : Prop :=
  ∃ v : Nat, v < m ∧ e = .returned (.int .i64 v) ∧ Cur B A n c g (k + 1) w' ∧ w.grownBy w' (some g)
set_option maxHeartbeats 800000 in
theorem next_any (B : Nat) (A : Option Addr) (n c g k : Nat) (w : World) (h : Cur B A n c g k w) (hk : k < 1000000) :
    Calls Try.prog 83 #[.pointer (some ⟨g, 0, none⟩)] w (NextPost B A n c g k 256 w) := by
  have HS := Lib.hid (fun d1 d2 x y hy => cur_step h d1 d2 x y hy)
  have HL := Lib.hid low8
  obtain ⟨hc0, hc1, ⟨u, hu, hc2⟩, hf1, hf2, hrow, hold, hlt⟩ := h
  by_cases hin : k < n
  · obtain ⟨a, b, rfl, ha, hb, hcell⟩ := hrow k hin
    go_enter Try.func83, Try.ntmps83
    go_wp2_with fail
    go_quiet (fail)
    go_wp2_with fail
    go_quiet (fail)
    go_wp2_with fail
    go_quiet (fail)
    go_wp2_with fail
    go_ret
    exact ⟨b, hb, rfl, HS.out _ _ _ _ rfl⟩
  · go_enter Try.func83, Try.ntmps83
    go_wp2_with fail
    go_quiet (fail)
    go_wp2_with fail
    go_quiet (fail)
    go_wp2_with fail
    go_ret
    obtain ⟨v, hv, he⟩ := HL.out (IntKind.u64.wrap (IntKind.u64.wrap (u * 6364136223846793005)) + 103131)
    refine ⟨v, hv, ?_, HS.out _ _ _ _ rfl⟩
    rw [← he]
    rfl
theorem grown_trans {a b c : World} {r : Option Nat} (h : a.grownBy b r) (k : b.grownBy c r) : a.grownBy c r :=
  ⟨k.os.trans h.os, k.tape.trans h.tape, k.output.trans h.output, Nat.le_trans h.size k.size, fun i hi hne => (k.block i (Nat.lt_of_lt_of_le hi h.size) hne).trans (h.block i hi hne)⟩
theorem Cur.kept {B : Nat} {A : Option Addr} {n c g k : Nat} {w w' : World} {r : Option Nat} (h : Cur B A n c g k w) (hg : w.grownBy w' r) (hne : some g ≠ r) (hB : ∀ i, r = some i → B ≤ i) : Cur B A n c g k w' := by
  obtain ⟨hc0, hc1, ⟨u0, hu0, hc2⟩, hf1, hf2, hrow, hold, hlt⟩ := h
  have hb := hg.block g hlt hne
  refine ⟨(World.cell?_of_block (a := ⟨g, 0, none⟩) hb).trans hc0, (World.cell?_of_block (a := ⟨g, 1, none⟩) hb).trans hc1, ⟨u0, hu0, (World.cell?_of_block (a := ⟨g, 2, none⟩) hb).trans hc2⟩, (World.frozen?_of_block (a := ⟨g, 1, none⟩) hb).trans hf1, (World.frozen?_of_block (a := ⟨g, 2, none⟩) hb).trans hf2, ?_, hold, Nat.lt_of_lt_of_le hlt hg.size⟩
  intro j hj
  obtain ⟨a, b, ha, hab, h2, hc⟩ := hrow j hj
  have hblk : (a.add j).block = a.block := by unfold Addr.add; split <;> rfl
  have hb2 := hg.block (a.add j).block (by rw [hblk]; omega) (fun e => by have := hB _ e.symm; rw [hblk] at this; omega)
  exact ⟨a, b, ha, hab, h2, (World.cell?_of_block hb2).trans hc⟩
theorem Cur.alloc {B : Nat} {A : Option Addr} {n c g k : Nat} {w : World} (h : Cur B A n c g k w) (o : Obj) : Cur B A n c g k (w.alloc o) :=
  h.kept (World.grownBy_alloc w o none) (by simp) (fun _ e => by cases e)
/-- The bytes of the code, as the reader needs them. -/
def CodeRow (B : Nat) (A : Option Addr) (n : Nat) (w : World) : Prop := ∀ j, j < n → ∃ (a : Addr) (b : Nat), A = some a ∧ a.block < B ∧ b < 256 ∧ w.cell? (a.add j) = some (.int .u8 b)
theorem cur_new (w : World) (A : Option Addr) (n c : Nat) (T : TypeId) (h : CodeRow w.heap.size A n w) : Cur w.heap.size A n c w.heap.size 0 (w.alloc (.cells #[.slice A n c, .int .i64 0, .int .u64 0] T)) := by
  refine ⟨World.cell?_alloc_new _ _ _ _, World.cell?_alloc_new _ _ _ _, ⟨0, by decide, World.cell?_alloc_new _ _ _ _⟩, World.frozen?_alloc_at _ _ _ _ rfl, World.frozen?_alloc_at _ _ _ _ rfl, ?_, Nat.le_refl _, by simp⟩
  intro j hj
  obtain ⟨a, b, ha, hab, h2, hc⟩ := h j hj
  have hblk : (a.add j).block = a.block := by unfold Addr.add; split <;> rfl
  exact ⟨a, b, ha, hab, h2, (World.cell?_alloc_lt _ _ _ (by rw [hblk]; exact hab)).trans hc⟩

/-! ### pick, one -/
theorem pick_any (B : Nat) (A : Option Addr) (n c g k m : Nat) (w : World) (h : Cur B A n c g k w) (hk : k < 1000000) (h1 : 1 < m) (h2 : m ≤ 200) :
    Calls Try.prog 75 #[.pointer (some ⟨g, 0, none⟩), .int .i64 m] w (NextPost B A n c g k m w) := by
  have HN := Lib.hid (next_any B A n c g k w h hk)
  clear h
  go_enter Try.func75, Try.ntmps75
  go_wp2_with (go_at_call 83; refine HN.out.mono ?_; rintro e w' ⟨v, hv, rfl, hc, hg⟩; have HC := Lib.hid hc; have HG := Lib.hid hg; clear hc hg)
  go_ret
  exact ⟨v % m, Nat.mod_lt _ (by omega), by (try simp only [Int.natCast_emod]); rfl, HC.out, HG.out⟩
def OnePost (B : Nat) (A : Option Addr) (n c g k : Nat) (w : World) (e : Ending) (w' : World) : Prop :=
  ∃ b : Bool, e = .returned (.bool b) ∧ Cur B A n c g (k + 1) w' ∧ w.grownBy w' (some g)
theorem one_any (B : Nat) (A : Option Addr) (n c g k m : Nat) (w : World) (h : Cur B A n c g k w) (hk : k < 1000000) (h1 : 1 < m) (h2 : m ≤ 200) :
    Calls Try.prog 76 #[.pointer (some ⟨g, 0, none⟩), .int .i64 m] w (OnePost B A n c g k w) := by
  have HN := Lib.hid (pick_any B A n c g k m w h hk h1 h2)
  clear h
  go_enter Try.func76, Try.ntmps76
  go_wp2_with (go_at_call 75; refine HN.out.mono ?_; rintro e w' ⟨v, hv, rfl, hc, hg⟩; have HC := Lib.hid hc; have HG := Lib.hid hg; clear hc hg)
  go_ret
  exact ⟨_, rfl, HC.out, HG.out⟩

/-! ### among -/
def AmongPost (p : Int → Prop) (B : Nat) (A : Option Addr) (n c g k : Nat) (w : World) (e : Ending) (w' : World) : Prop :=
  ∃ x, p x ∧ e = .returned (.int .i64 x) ∧ Cur B A n c g (k + 1) w' ∧ w.grownBy w' (some g)
theorem among_any (p : Int → Prop) (B : Nat) (A : Option Addr) (n c g k b cap : Nat) (xs : List Int) (w : World) (h : Cur B A n c g k w) (hk : k < 1000000) (h1 : 1 < xs.length) (h2 : xs.length ≤ 200)
    (hc : ∀ j x, xs[j]? = some x → w.cell? ⟨b, j, none⟩ = some (.int .i64 x)) (hb : b < w.heap.size) (hbg : b ≠ g) (hp : ∀ x ∈ xs, p x) :
    Calls Try.prog 77 #[.pointer (some ⟨g, 0, none⟩), .slice (some ⟨b, 0, none⟩) xs.length cap] w (AmongPost p B A n c g k w) := by
  have HN := Lib.hid (pick_any B A n c g k xs.length w h hk h1 h2)
  have HP := Lib.hid hp
  have HC0 := Lib.hid hc
  clear h hp hc
  go_enter Try.func77, Try.ntmps77
  go_wp2_with (go_at_call 75; refine HN.out.mono ?_; rintro e w' ⟨v, hv, rfl, hc, hg⟩; have HC := Lib.hid hc; have HG := Lib.hid hg; have hcell := (World.cell?_of_block (a := ⟨b, v, none⟩) (hg.block b hb (fun e => hbg (Option.some.inj e)))).trans (HC0.out v xs[v] (List.getElem?_eq_getElem hv)); clear hc hg)
  go_ret
  exact ⟨xs[v], HP.out _ (List.getElem_mem hv), rfl, HC.out, HG.out⟩
theorem among_made (p : Int → Prop) (B : Nat) (A : Option Addr) (n c g k cap : Nat) (xs : List Int) (w : World) (h : Cur B A n c g k w) (hk : k < 1000000) (h1 : 1 < xs.length) (h2 : xs.length ≤ 200) (hp : ∀ x ∈ xs, p x) :
    Calls Try.prog 77 #[.pointer (some ⟨g, 0, none⟩), .slice (some ⟨w.heap.size, 0, none⟩) xs.length cap] (w.alloc (.cells (xs.map (Value.int .i64)).toArray 3)) (AmongPost p B A n c g k w) := by
  have hlt := h.lt
  refine (among_any p B A n c g k w.heap.size cap xs _ (h.alloc _) hk h1 h2 (fun j x hx => by rw [World.cell?_alloc_new]; simp [hx]) (by simp) (by omega) hp).mono ?_
  rintro e w' ⟨x, hx, he, hc, hg⟩
  exact ⟨x, hx, he, hc, grown_trans (World.grownBy_alloc _ _ _) hg⟩
theorem among_at (p : Int → Prop) (B : Nat) (A : Option Addr) (n c g k b cap : Nat) (xs : List Int) (w : World) (h : Cur B A n c g k w) (hb : b = w.heap.size) (hk : k < 1000000) (h1 : 1 < xs.length) (h2 : xs.length ≤ 200) (hp : ∀ x ∈ xs, p x) :
    Calls Try.prog 77 #[.pointer (some ⟨g, 0, none⟩), .slice (some ⟨b, 0, none⟩) xs.length cap] (w.alloc (.cells (xs.map (Value.int .i64)).toArray 3)) (AmongPost p B A n c g k w) := by
  subst hb; exact among_made p B A n c g k cap xs w h hk h1 h2 hp
/-- A number that is drawn. -/
def Low (x : Int) : Prop := -2 ≤ x ∧ x ≤ 1600
theorem grown_set {w w1 : World} {g gb : Nat} (h : w.grownBy w1 (some g)) (hb : w.heap.size ≤ gb) (j : Nat) (u : Value) : w.grownBy (w1.setCell ⟨gb, j, none⟩ u) (some g) :=
  ⟨h.os, h.tape, h.output, by simpa [World.setCell] using h.size, fun i hi hne => (Below.heap_setCell w1 ⟨gb, j, none⟩ u i (by simp; omega)).trans (h.block i hi hne)⟩
theorem set_grown (w : World) (gb j : Nat) (u : Value) : w.grownBy (w.setCell ⟨gb, j, none⟩ u) (some gb) :=
  ⟨rfl, rfl, rfl, by simp [World.setCell], fun i _ hne => Below.heap_setCell w ⟨gb, j, none⟩ u i (by simp; intro e; exact hne (by rw [e]))⟩
theorem Cur.set {B : Nat} {A : Option Addr} {n c g k : Nat} {w : World} (h : Cur B A n c g k w) {gb : Nat} (hne : gb ≠ g) (hB : B ≤ gb) (j : Nat) (u : Value) : Cur B A n c g k (w.setCell ⟨gb, j, none⟩ u) :=
  h.kept (set_grown w gb j u) (fun e => hne (Option.some.inj e).symm) (fun i e => by have := Option.some.inj e; omega)
def SpotPost (B : Nat) (A : Option Addr) (n c g k : Nat) (w : World) (e : Ending) (w' : World) : Prop :=
  ∃ (x y : Int) (k' : Nat), Low x ∧ Low y ∧ k ≤ k' ∧ k' ≤ k + 4 ∧ e = .returned (.agg #[.int .i64 x, .int .i64 y]) ∧ Cur B A n c g k' w' ∧ w.grownBy w' (some g)
set_option maxHeartbeats 1600000 in
theorem spot_any (B : Nat) (A : Option Addr) (n c g k : Nat) (w : World) (h : Cur B A n c g k w) (hk : k < 900000) :
    Calls Try.prog 55 #[.pointer (some ⟨g, 0, none⟩)] w (SpotPost B A n c g k w) := by
  have HC0 := Lib.hid (h.alloc (.cells #[.int .i64 0, .int .i64 0] 26))
  have hlt := h.lt
  have hold := h.old
  clear h
  go_enter Try.func55, Try.ntmps55
  go_wp2_with fail
  refine (among_at Low _ _ _ _ _ _ _ 7 [0, 10, 20, 30, 50, 100, 1000] _ HC0.out (by simp) (by omega) (by decide) (by decide) (by
    intro x hx; simp only [List.mem_cons, List.not_mem_nil, or_false] at hx; unfold Low; omega)).mono ?_
  rintro e w1 ⟨x, hx, rfl, hc, hg⟩
  have HC1 := Lib.hid hc
  have HG1 := Lib.hid (grown_trans (World.grownBy_alloc _ _ _) hg)
  have HR1 := Lib.hid (has_grown (Has.new w #[.int .i64 0, .int .i64 0] 26) hg (fun e => by have := Option.some.inj e; omega))
  clear hc hg
  go_wp2_with fail
  refine (among_at Low _ _ _ _ _ _ _ 7 [0, 10, 20, 40, 60, 100, 1000] _ HC1.out (rfl) (by omega) (by decide) (by decide) (by
    intro x hx; simp only [List.mem_cons, List.not_mem_nil, or_false] at hx; unfold Low; omega)).mono ?_
  rintro e w2 ⟨y, hy, rfl, hc, hg⟩
  have HC2 := Lib.hid (hc.alloc (.cells #[.int .i64 x, .int .i64 y] 26))
  have HG2 := Lib.hid (grown_trans (grown_trans HG1.out hg) (World.grownBy_alloc _ (.cells #[.int .i64 x, .int .i64 y] 26) _))
  have HR2 := Lib.hid ((has_grown HR1.out hg (fun e => by have := Option.some.inj e; omega)).alloc (.cells #[.int .i64 x, .int .i64 y] 26))
  have HP2 := Lib.hid (Has.new w2 #[.int .i64 x, .int .i64 y] 26)
  have HZ2 := Lib.hid hg.size
  have HL2 := Lib.hid hc.lt
  clear hc hg
  go_wp2_with fail
  refine (one_any _ _ _ _ _ _ 48 _ HC2.out (by omega) (by decide) (by decide)).mono ?_
  rintro e w3 ⟨v, rfl, hc, hg⟩
  have HC3 := Lib.hid hc
  have HG3 := Lib.hid (grown_trans HG2.out hg)
  have HR3 := Lib.hid (has_grown HR2.out hg (fun e => by have := Option.some.inj e; omega))
  have HP3 := Lib.hid (has_grown HP2.out hg (fun e => by have := Option.some.inj e; have := HL2.out; omega))
  clear hc hg
  have hx1 := hx.1
  have hx2 := hx.2
  rcases v with _ | _
  · have r0 := HR3.out.at_ 0 _ rfl
    have r1 := HR3.out.at_ 1 _ rfl
    have f0 := HR3.out.free 0
    have f1 := HR3.out.free 1
    have p0 := HP3.out.at_ 0 _ rfl
    have p1 := HP3.out.at_ 1 _ rfl
    go_wp2_with fail
    refine bodyPost_ret (v := .agg #[.int .i64 x, .int .i64 y]) (by simp [results, Try.results55, go_sem, r0, r1]) rfl ⟨x, y, k + 1 + 1 + 1, hx, hy, by omega, by omega, rfl, ?_, ?_⟩
    · exact (HC3.out.set (by omega) (by omega) 0 _).set (by omega) (by omega) 1 _
    · exact grown_set (grown_set HG3.out (Nat.le_refl _) 0 _) (Nat.le_refl _) 1 _
  · go_wp2_with fail
    refine (among_at Low _ _ _ _ _ _ _ 2 [-1, 1001] _ HC3.out (rfl) (by omega) (by decide) (by decide) (by
      intro x hx; simp only [List.mem_cons, List.not_mem_nil, or_false] at hx; unfold Low; omega)).mono ?_
    rintro e w4 ⟨z, hz, rfl, hc, hg⟩
    have HC4 := Lib.hid hc
    have HG4 := Lib.hid (grown_trans HG3.out hg)
    have HR4 := Lib.hid (has_grown HR3.out hg (fun e => by have := Option.some.inj e; omega))
    have HP4 := Lib.hid (has_grown HP3.out hg (fun e => by have := Option.some.inj e; have := HL2.out; omega))
    clear hc hg
    have r0 := HR4.out.at_ 0 _ rfl
    have r1 := HR4.out.at_ 1 _ rfl
    have f0 := HR4.out.free 0
    have f1 := HR4.out.free 1
    have p0 := HP4.out.at_ 0 _ rfl
    have p1 := HP4.out.at_ 1 _ rfl
    have q0 := HP4.out.free 0
    have hz2 := HZ2.out
    have hne : ¬ w2.heap.size = w.heap.size := by have := HR1.out.1; omega
    have hzw : w.heap.size ≤ w2.heap.size := by have := HR1.out.1; omega
    go_wp2_with fail
    refine bodyPost_ret (v := .agg #[.int .i64 z, .int .i64 y]) (by simp [results, Try.results55, go_sem, r0, r1]) rfl ⟨z, y, k + 1 + 1 + 1 + 1, hz, hy, by omega, by omega, rfl, ?_, ?_⟩
    · exact ((HC4.out.set (by have := HL2.out; omega) (by omega) 0 _).set (by omega) (by omega) 0 _).set (by omega) (by omega) 1 _
    · exact grown_set (grown_set (grown_set HG4.out (by omega) 0 _) (Nat.le_refl _) 0 _) (Nat.le_refl _) 1 _
/-! ### box -/
theorem kD {w W : World} {a : Addr} {v : Value} {r : Option Nat} (h : W.cell? a = some v ∧ Hid (w.grownBy W r)) : W.drew.cell? a = some v ∧ Hid (w.grownBy W.drew r) :=
  ⟨h.1, Lib.hid ⟨h.2.out.os, h.2.out.tape, h.2.out.output, h.2.out.size, h.2.out.block⟩⟩
theorem kA {w W : World} {a : Addr} {v : Value} {r : Option Nat} (h : W.cell? a = some v ∧ Hid (w.grownBy W r)) (o : Obj) : (W.alloc o).cell? a = some v ∧ Hid (w.grownBy (W.alloc o) r) :=
  ⟨cell_next ((Below.refl _ _).alloc (Nat.le_refl _) o) h.1, Lib.hid (grown_trans h.2.out (World.grownBy_alloc W o r))⟩
theorem kS {w W : World} {a : Addr} {v : Value} {g : Nat} (h : W.cell? a = some v ∧ Hid (w.grownBy W (some g))) {gb j : Nat} (hb : w.heap.size ≤ gb) (hne : a ≠ ⟨gb, j, none⟩) (u : Value) : (W.setCell ⟨gb, j, none⟩ u).cell? a = some v ∧ Hid (w.grownBy (W.setCell ⟨gb, j, none⟩ u) (some g)) :=
  ⟨(World.cell?_setCell_other _ _ _ _ (fun e => hne (by first | exact e | exact e.symm))).trans h.1, Lib.hid (grown_set h.2.out hb j u)⟩
theorem among_drew (p : Int → Prop) (B : Nat) (A : Option Addr) (n c g k b cap : Nat) (xs : List Int) (w : World) (h : Cur B A n c g k w) (hb : b = w.heap.size) (hk : k < 1000000) (h1 : 1 < xs.length) (h2 : xs.length ≤ 200) (hp : ∀ x ∈ xs, p x) :
    Calls Try.prog 77 #[.pointer (some ⟨g, 0, none⟩), .slice (some ⟨b, 0, none⟩) xs.length cap] ((w.alloc (.cells (xs.map (Value.int .i64)).toArray 3)).drew) (AmongPost p B A n c g k w) := by
  subst hb
  have hd : Cur B A n c g k w.drew := ⟨h.code, h.pos, h.seed, h.free1, h.free2, h.row, h.old, h.lt⟩
  refine Calls.mono (among_made p B A n c g k cap xs w.drew hd hk h1 h2 hp) ?_
  rintro e w' ⟨x, hx, he, hc, hg⟩
  exact ⟨x, hx, he, hc, ⟨hg.os, hg.tape, hg.output, hg.size, hg.block⟩⟩
def Low2 (x : Int) : Prop := -3 ≤ x ∧ x ≤ 3300
def BoxPost (B : Nat) (A : Option Addr) (n c g k : Nat) (w : World) (e : Ending) (w' : World) : Prop :=
  ∃ (x y z u : Int) (k' : Nat), k ≤ k' ∧ k' ≤ k + 7 ∧ e = .returned (.agg #[.int .i64 x, .int .i64 y, .int .i64 z, .int .i64 u]) ∧ Cur B A n c g k' w' ∧ w.grownBy w' (some g)
set_option maxHeartbeats 3200000 in
theorem box_any (B : Nat) (A : Option Addr) (n c g k : Nat) (w : World) (h : Cur B A n c g k w) (hk : k < 900000) :
    Calls Try.prog 66 #[.pointer (some ⟨g, 0, none⟩)] w (BoxPost B A n c g k w) := by
  have HC0 := Lib.hid (h.alloc (.cells #[.int .i64 0, .int .i64 0, .int .i64 0, .int .i64 0] 35))
  have hlt := h.lt
  have hold := h.old
  clear h
  go_enter Try.func66, Try.ntmps66
  go_wp2_with fail
  refine (among_at Low _ _ _ _ _ _ _ 5 [0, 0, 10, 20, 50] _ HC0.out (by simp) (by omega) (by decide) (by decide) (by
    intro x hx; simp only [List.mem_cons, List.not_mem_nil, or_false] at hx; unfold Low; omega)).mono ?_
  rintro e w1 ⟨x, hx, rfl, hc, hg⟩
  have HC1 := Lib.hid hc
  have HG1 := Lib.hid (grown_trans (World.grownBy_alloc _ _ _) hg)
  have HR1 := Lib.hid (has_grown (Has.new w #[.int .i64 0, .int .i64 0, .int .i64 0, .int .i64 0] 35) hg (fun e => by have := Option.some.inj e; omega))
  clear hc hg
  go_wp2_with fail
  refine (among_at Low _ _ _ _ _ _ _ 4 [0, 0, 10, 30] _ HC1.out (rfl) (by omega) (by decide) (by decide) (by
    intro x hx; simp only [List.mem_cons, List.not_mem_nil, or_false] at hx; unfold Low; omega)).mono ?_
  rintro e w2 ⟨y, hy, rfl, hc, hg⟩
  have HC2 := Lib.hid (hc.alloc (.cells #[.int .i64 x, .int .i64 y, .int .i64 0, .int .i64 0] 35))
  have HG2 := Lib.hid (grown_trans (grown_trans HG1.out hg) (World.grownBy_alloc _ (.cells #[.int .i64 x, .int .i64 y, .int .i64 0, .int .i64 0] 35) _))
  have HR2 := Lib.hid ((has_grown HR1.out hg (fun e => by have := Option.some.inj e; omega)).alloc (.cells #[.int .i64 x, .int .i64 y, .int .i64 0, .int .i64 0] 35))
  have HP2 := Lib.hid (Has.new w2 #[.int .i64 x, .int .i64 y, .int .i64 0, .int .i64 0] 35)
  have HZ2 := Lib.hid (show w.heap.size < w2.heap.size by have := HR1.out.1; have := hg.size; omega)
  have HL2 := Lib.hid hc.lt
  clear hc hg
  obtain ⟨W3, hW3⟩ : ∃ W3, W3 = w2.alloc (.cells #[.int .i64 x, .int .i64 y, .int .i64 0, .int .i64 0] 35) := ⟨_, rfl⟩
  rw [← hW3] at HC2 HG2 HR2 HP2
  have hx1 := hx.1
  have hx2 := hx.2
  have hy1 := hy.1
  have hy2 := hy.2
  have HE3 := Lib.hid hW3
  clear hW3
  go_wp2_with fail
  rw [← HE3.out]
  have p0 := HP2.out.at_ 0 _ rfl
  have p1 := HP2.out.at_ 2 _ rfl
  have q1 := HP2.out.free 2
  go_wp2_with fail
  go_region_held3 (fun W => W.cell? ⟨w2.heap.size, 0, none⟩ = some (.int .i64 x) ∧ Hid (w.grownBy W (some g))) (first | with_reducible assumption | exact kD ⟨p0, HG2⟩ | with_reducible exact kA (by assumption) _ | with_reducible exact kD (kA (kD ⟨p0, HG2⟩) _) | with_reducible exact kD (kA ⟨p0, HG2⟩ _) | exact kA (show W3.cell? ⟨w2.heap.size, 0, none⟩ = some (.int .i64 x) ∧ Hid (w.grownBy W3 (some g)) from ⟨p0, HG2⟩) _ | exact HK4 | with_reducible exact kS (by assumption) (Nat.le_of_lt HZ2.out) (by simp) _ | exact kS HK4 (Nat.le_of_lt HZ2.out) (by simp) _) ((go_at_call 77; refine (among_drew Low _ _ _ _ _ _ _ 5 [0, 10, 40, 100, 500] W3 HC2.out (by first | rfl | simp) (by omega) (by decide) (by decide) (by intro x hx; simp only [List.mem_cons, List.not_mem_nil, or_false] at hx; unfold Low; omega)).mono ?_; rintro e w4 ⟨z, hz, rfl, hc, hg⟩; have HC4 := Lib.hid hc; have HG4 := Lib.hid (grown_trans HG2.out hg); have HP4 := Lib.hid (has_grown HP2.out hg (fun e => by have := Option.some.inj e; have := HL2.out; omega)); have HR4 := Lib.hid (has_grown HR2.out hg (fun e => by have := Option.some.inj e; omega)); have HK4 := And.intro (HP4.out.at_ 0 _ rfl) HG4; have sz := HP4.out.at_ 2 _ rfl; have tz := HP4.out.free 2; have bz := hz.1; have dz := hz.2; clear hc hg; dsimp only))
  have hgb : w2.heap.size ≠ g := by have := HL2.out; omega
  have hBb : B ≤ w2.heap.size := by have := HZ2.out; omega
  have hRb : w2.heap.size ≠ w.heap.size := by have := HZ2.out; omega
  obtain ⟨W5, hW5⟩ : ∃ W5, W5 = w4.setCell ⟨w2.heap.size, 2, none⟩ (.int .i64 (IntKind.i64.wrap (x + z))) := ⟨_, rfl⟩
  have HC5 : Hid (Cur B A n c g (k + 1 + 1 + 1) W5) := by rw [hW5]; exact HC4.out.set hgb hBb 2 _
  have HG5 : Hid (w.grownBy W5 (some g)) := by rw [hW5]; exact grown_set HG4.out (Nat.le_of_lt HZ2.out) 2 _
  have HP5 : Hid (Has W5 w2.heap.size [.int .i64 x, .int .i64 y, .int .i64 (IntKind.i64.wrap (x + z)), .int .i64 0]) := by rw [hW5]; exact HP4.out.set 2 _
  have HR5 : Hid (Has W5 w.heap.size [.int .i64 0, .int .i64 0, .int .i64 0, .int .i64 0]) := by rw [hW5]; exact HR4.out.far hRb _
  rw [← hW5]
  clear hW5 p0 p1 q1 sz tz HK4
  have p0 := HP5.out.at_ 1 _ rfl
  have p1 := HP5.out.at_ 3 _ rfl
  have q1 := HP5.out.free 3
  go_wp2_with fail
  go_region_held3 (fun W => W.cell? ⟨w2.heap.size, 1, none⟩ = some (.int .i64 y) ∧ Hid (w.grownBy W (some g))) (first | with_reducible assumption | exact kD ⟨p0, HG5⟩ | with_reducible exact kA (by assumption) _ | with_reducible exact kD (kA (kD ⟨p0, HG5⟩) _) | with_reducible exact kD (kA ⟨p0, HG5⟩ _) | exact kA (show W5.cell? ⟨w2.heap.size, 1, none⟩ = some (.int .i64 y) ∧ Hid (w.grownBy W5 (some g)) from ⟨p0, HG5⟩) _ | exact HK6 | with_reducible exact kS (by assumption) (Nat.le_of_lt HZ2.out) (by simp) _ | exact kS HK6 (Nat.le_of_lt HZ2.out) (by simp) _) ((go_at_call 77; refine (among_drew Low _ _ _ _ _ _ _ 5 [0, 10, 40, 100, 500] W5 HC5.out (by first | rfl | simp) (by omega) (by decide) (by decide) (by intro x hx; simp only [List.mem_cons, List.not_mem_nil, or_false] at hx; unfold Low; omega)).mono ?_; rintro e w6 ⟨u, hu, rfl, hc, hg⟩; have HC6 := Lib.hid hc; have HG6 := Lib.hid (grown_trans HG5.out hg); have HP6 := Lib.hid (has_grown HP5.out hg (fun e => by have := Option.some.inj e; have := HL2.out; omega)); have HR6 := Lib.hid (has_grown HR5.out hg (fun e => by have := Option.some.inj e; omega)); have HK6 := And.intro (HP6.out.at_ 1 _ rfl) HG6; have su := HP6.out.at_ 3 _ rfl; have tu := HP6.out.free 3; have bu := hu.1; have du := hu.2; clear hc hg; dsimp only))
  obtain ⟨W7, hW7⟩ : ∃ W7, W7 = w6.setCell ⟨w2.heap.size, 3, none⟩ (.int .i64 (IntKind.i64.wrap (y + u))) := ⟨_, rfl⟩
  have HC7 : Hid (Cur B A n c g (k + 1 + 1 + 1 + 1) W7) := by rw [hW7]; exact HC6.out.set hgb hBb 3 _
  have HG7 : Hid (w.grownBy W7 (some g)) := by rw [hW7]; exact grown_set HG6.out (Nat.le_of_lt HZ2.out) 3 _
  have HP7 : Hid (Has W7 w2.heap.size [.int .i64 x, .int .i64 y, .int .i64 (IntKind.i64.wrap (x + z)), .int .i64 (IntKind.i64.wrap (y + u))]) := by rw [hW7]; exact HP6.out.set 3 _
  have HR7 : Hid (Has W7 w.heap.size [.int .i64 0, .int .i64 0, .int .i64 0, .int .i64 0]) := by rw [hW7]; exact HR6.out.far hRb _
  rw [← hW7]
  clear hW7 p0 p1 q1 su tu HK6
  go_wp2_with fail
  refine (pick_any _ _ _ _ _ _ 24 _ HC7.out (by omega) (by decide) (by decide)).mono ?_
  rintro e w8 ⟨v, hv, rfl, hc, hg⟩
  have HC8 := Lib.hid hc
  have HG8 := Lib.hid (grown_trans HG7.out hg)
  have HP8 := Lib.hid (has_grown HP7.out hg (fun e => hgb (Option.some.inj e)))
  have HR8 := Lib.hid (has_grown HR7.out hg (fun e => by have := Option.some.inj e; omega))
  clear hc hg
  have hRg : ¬ w.heap.size = g := by omega
  have hne1 : ¬ w2.heap.size = w.heap.size := hRb
  have hne2 : ¬ w.heap.size = w2.heap.size := fun e => hRb e.symm
  rcases Nat.eq_zero_or_pos v with h0 | h0
  · subst h0
    go_wp2_with fail
    refine (among_at Low _ _ _ _ _ _ _ 2 [-1, 1001] _ HC8.out (rfl) (by omega) (by decide) (by decide) (by
      intro x hx; simp only [List.mem_cons, List.not_mem_nil, or_false] at hx; unfold Low; omega)).mono ?_
    rintro e w9 ⟨t, ht, rfl, hc, hg⟩
    have HC9 := Lib.hid hc
    have HG9 := Lib.hid (grown_trans HG8.out hg)
    have HP9 := Lib.hid (has_grown HP8.out hg (fun e => hgb (Option.some.inj e)))
    have HR9 := Lib.hid (has_grown HR8.out hg (fun e => by have := Option.some.inj e; omega))
    clear hc hg
    have p0 := HP9.out.at_ 0 _ rfl
    have p1 := HP9.out.at_ 1 _ rfl
    have p2 := HP9.out.at_ 2 _ rfl
    have p3 := HP9.out.at_ 3 _ rfl
    have r0 := HR9.out.at_ 0 _ rfl
    have r1 := HR9.out.at_ 1 _ rfl
    have r2 := HR9.out.at_ 2 _ rfl
    have r3 := HR9.out.at_ 3 _ rfl
    have f0 := HR9.out.free 0
    have f1 := HR9.out.free 1
    have f2 := HR9.out.free 2
    have f3 := HR9.out.free 3
    have q0 := HP9.out.free 0
    have hzw := Nat.le_of_lt HZ2.out
    go_wp2_with fail
    refine bodyPost_ret (v := .agg #[.int .i64 t, .int .i64 y, .int .i64 (x + z), .int .i64 (y + u)]) (by simp [results, Try.results66, go_sem, r0, r1, r2, r3]) rfl ⟨_, _, _, _, k + 6, by omega, by omega, rfl, ?_, ?_⟩
    · exact ((((HC9.out.set hgb hBb 0 _).set (by omega) (by omega) 0 _).set (by omega) (by omega) 1 _).set (by omega) (by omega) 2 _).set (by omega) (by omega) 3 _
    · exact grown_set (grown_set (grown_set (grown_set (grown_set HG9.out hzw 0 _) (Nat.le_refl _) 0 _) (Nat.le_refl _) 1 _) (Nat.le_refl _) 2 _) (Nat.le_refl _) 3 _
  · have hv0 : ((v : Int) == 0) = false := beq_eq_false_iff_ne.2 (by omega)
    by_cases h1 : v = 1
    · subst h1
      have p0 := HP8.out.at_ 0 _ rfl
      have p1 := HP8.out.at_ 1 _ rfl
      have p2 := HP8.out.at_ 2 _ rfl
      have p3 := HP8.out.at_ 3 _ rfl
      have r0 := HR8.out.at_ 0 _ rfl
      have r1 := HR8.out.at_ 1 _ rfl
      have r2 := HR8.out.at_ 2 _ rfl
      have r3 := HR8.out.at_ 3 _ rfl
      have f0 := HR8.out.free 0
      have f1 := HR8.out.free 1
      have f2 := HR8.out.free 2
      have f3 := HR8.out.free 3
      have q3 := HP8.out.free 3
      have hzw := Nat.le_of_lt HZ2.out
      go_wp2_with fail
      refine bodyPost_ret (v := .agg #[.int .i64 x, .int .i64 y, .int .i64 (x + z), .int .i64 (y - 1)]) (by simp [results, Try.results66, go_sem, r0, r1, r2, r3]) rfl ⟨_, _, _, _, k + 5, by omega, by omega, rfl, ?_, ?_⟩
      · exact ((((HC8.out.set hgb hBb 3 _).set (by omega) (by omega) 0 _).set (by omega) (by omega) 1 _).set (by omega) (by omega) 2 _).set (by omega) (by omega) 3 _
      · exact grown_set (grown_set (grown_set (grown_set (grown_set HG8.out hzw 3 _) (Nat.le_refl _) 0 _) (Nat.le_refl _) 1 _) (Nat.le_refl _) 2 _) (Nat.le_refl _) 3 _
    · have hv1 : ((v : Int) == 1) = false := beq_eq_false_iff_ne.2 (by omega)
      have p0 := HP8.out.at_ 0 _ rfl
      have p1 := HP8.out.at_ 1 _ rfl
      have p2 := HP8.out.at_ 2 _ rfl
      have p3 := HP8.out.at_ 3 _ rfl
      have r0 := HR8.out.at_ 0 _ rfl
      have r1 := HR8.out.at_ 1 _ rfl
      have r2 := HR8.out.at_ 2 _ rfl
      have r3 := HR8.out.at_ 3 _ rfl
      have f0 := HR8.out.free 0
      have f1 := HR8.out.free 1
      have f2 := HR8.out.free 2
      have f3 := HR8.out.free 3
      go_wp2_with fail
      refine bodyPost_ret (v := .agg #[.int .i64 x, .int .i64 y, .int .i64 (x + z), .int .i64 (y + u)]) (by simp [results, Try.results66, go_sem, r0, r1, r2, r3]) rfl ⟨_, _, _, _, k + 5, by omega, by omega, rfl, ?_, ?_⟩
      · exact (((HC8.out.set (by omega) (by omega) 0 _).set (by omega) (by omega) 1 _).set (by omega) (by omega) 2 _).set (by omega) (by omega) 3 _
      · exact grown_set (grown_set (grown_set (grown_set HG8.out (Nat.le_refl _) 0 _) (Nat.le_refl _) 1 _) (Nat.le_refl _) 2 _) (Nat.le_refl _) 3 _
end Go.Proofs.Ytjnimedbjmihaaa
