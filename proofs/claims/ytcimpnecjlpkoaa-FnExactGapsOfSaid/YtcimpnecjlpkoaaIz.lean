/-
  What the laws do with rows of numbers and with rows of gauges that they mark: contracts of laws.eqIntS, markIntS, heldIntS, markText, markReadingS, markGaugeS over this translation. Conditions: stated at each theorem.
-/
import Derived.Test.YtcimpnecjlpkoaaGs
import Derived.Laws.IdiomStrings
namespace Go.Proofs.Ytcimpnecjlpkoaa
open Go.RowKit

/-! ### laws.eqIntS -/
set_option maxHeartbeats 800000 in
theorem eqI_same (A A' : Option Addr) (n c c' lo hi lo' hi' : Nat) (f : Nat → Int) (w : World) (h1 : IFun w lo hi A n f) (h2 : IFun w lo' hi' A' n f) (hm : n ≤ 1048576) :
    Calls Try.prog 62 #[.slice A n c, .slice A' n c'] w fun e w' => e = .returned (.bool true) ∧ ∃ k, w' = w.drewN k := by
  have H1 := Lib.hid h1
  have H2 := Lib.hid h2
  clear h1 h2
  go_enter Try.func62, Try.ntmps62
  go_wp2
  go_loopw [5] (fun i wr => ∃ k d : Nat, k ≤ n ∧ i = .int .i64 k ∧ wr = w.drewN d) (fun i _ => n - (intOf i).toNat)
  case atStart => exact ⟨0, 0, Nat.zero_le _, rfl, by rw [World.drewN_zero]⟩
  case round =>
    obtain ⟨k, d, hk, rfl, rfl⟩ := hrel
    by_cases hlt : k < n
    · obtain ⟨g, rfl, _, _, hc1, _⟩ := H1.out k hlt
      obtain ⟨g', rfl, _, _, hc2, _⟩ := H2.out k hlt
      go_wp2_with fail
      go_quiet (fail)
      go_wp2
      go_roundw
      case rel => exact ⟨k + 1, _, by omega, by go_num, rfl⟩
      case measure => simp [intOf]; omega
    · go_wp2
      go_ret
      exact ⟨rfl, _, rfl⟩

/-! ### laws.markIntS, laws.heldIntS -/
def MarkPost (lo hi : Nat) (A : Option Addr) (n : Nat) (w : World) (e : Ending) (w' : World) : Prop :=
  e = .returned (.int .i64 ((n : Int) + 1)) ∧ IFun w' lo hi A n (fun j => (j : Int) + 1) ∧ Far lo hi w w'
set_option maxHeartbeats 800000 in
theorem markI_any (A : Option Addr) (n c lo hi : Nat) (f : Nat → Int) (w : World) (h : IFun w lo hi A n f) (hm : n ≤ 1048576) :
    Calls Try.prog 64 #[.slice A n c, .int .i64 1] w (MarkPost lo hi A n w) := by
  have H := Lib.hid h
  clear h
  go_enter Try.func64, Try.ntmps64
  go_wp2
  go_loopw [1, 5] (fun m i wr => ∃ k : Nat, k ≤ n ∧ i = .int .i64 k ∧ m = .int .i64 ((k : Int) + 1) ∧ Hid (IFun wr lo hi A n (fun j => if j < k then (j : Int) + 1 else f j) ∧ Far lo hi w wr)) (fun _ i _ => n - (intOf i).toNat)
  case atStart => exact ⟨0, Nat.zero_le _, rfl, rfl, Lib.hid ⟨H.out.congr (fun k _ => by simp), Far.refl _ _ _⟩⟩
  case round =>
    obtain ⟨k, hk, rfl, rfl, hI⟩ := hrel
    by_cases hlt : k < n
    · obtain ⟨g, rfl, hg1, hg2, hc, hf⟩ := hI.out.1 k hlt
      have HN : Hid (IFun (wr.setCell ⟨g, k, none⟩ (.int .i64 ((k : Int) + 1))) lo hi (some ⟨g, 0, none⟩) n (fun j => if j < k + 1 then (j : Int) + 1 else f j) ∧ Far lo hi w (wr.setCell ⟨g, k, none⟩ (.int .i64 ((k : Int) + 1)))) := by
        refine ⟨(hI.out.1.set (k := k) ((k : Int) + 1)).congr (fun j _ => ?_), hI.out.2.setCell (p := ⟨g, k, none⟩) hg1 hg2 _⟩
        by_cases e : j = k
        · subst e; simp
        · by_cases hj : j < k
          · rw [if_neg e, if_pos hj, if_pos (by omega)]
          · rw [if_neg e, if_neg hj, if_neg (by omega)]
      dsimp only at hc
      rw [if_neg (Nat.lt_irrefl k)] at hc
      go_wp2
      go_roundw
      case rel => exact ⟨k + 1, by omega, by go_num, by go_num, HN⟩
      case measure => simp [intOf]; omega
    · obtain rfl : k = n := by omega
      have HR : Hid (IFun wr lo hi A k (fun j => (j : Int) + 1)) := hI.out.1.congr fun j hj => by rw [if_pos hj]
      go_wp2
      go_ret
      exact ⟨rfl, HR.out, hI.out.2⟩
set_option maxHeartbeats 800000 in
theorem heldI_any (A : Option Addr) (n c lo hi : Nat) (w : World) (h : IFun w lo hi A n (fun j => (j : Int) + 1)) (hm : n ≤ 1048576) :
    Calls Try.prog 65 #[.slice A n c, .int .i64 1] w fun e w' => e = .returned (.int .i64 ((n : Int) + 1)) ∧ w = w' := by
  have H := Lib.hid h
  clear h
  go_enter Try.func65, Try.ntmps65
  go_wp2
  go_loop [1, 5] (fun m i => ∃ k : Nat, k ≤ n ∧ i = .int .i64 k ∧ m = .int .i64 ((k : Int) + 1)) (fun _ i => n - (intOf i).toNat)
  case atStart => exact ⟨0, Nat.zero_le _, rfl, rfl⟩
  case round =>
    obtain ⟨k, hk, rfl, rfl⟩ := hrel
    by_cases hlt : k < n
    · obtain ⟨g, rfl, _, _, hc, _⟩ := H.out k hlt
      go_wp2
      go_round
      case rel => exact ⟨k + 1, by omega, by go_num, by go_num⟩
      case measure => simp [intOf]; omega
    · obtain rfl : k = n := by omega
      go_wp2
      go_ret
      exact ⟨rfl, rfl⟩

/-! ### laws.markText -/
set_option maxRecDepth 100000 in
set_option maxHeartbeats 800000 in
theorem markText_any (v : Nat) (w : World) (hv : v < 10 ^ 13) :
    Calls Try.prog 93 #[.int .i64 v] w fun e w' => (∃ s : ByteArray, e = .returned (.string s)) ∧ Below w.heap.size w w' := by
  rcases Nat.eq_zero_or_pos v with rfl | hp
  · go_enter Try.func93, Try.ntmps93
    go_wp2_with fail
    go_ret
    exact ⟨⟨_, rfl⟩, Below.refl _ _⟩
  go_enter Try.func93, Try.ntmps93
  go_wp2_with fail
  go_loopw [0, 3] (fun m s wr => ∃ (k u : Nat) (b : ByteArray), m = .int .i64 u ∧ s = .string b ∧ k ≤ 13 ∧ u < 10 ^ k ∧ b.size + k ≤ 13 ∧ Hid (Below w.heap.size w wr)) (fun m _ _ => (intOf m).toNat)
  case atStart => exact ⟨13, v, _, rfl, rfl, Nat.le_refl _, hv, by decide, Lib.hid (Below.refl _ _)⟩
  case round =>
    obtain ⟨k, u, b, rfl, rfl, hk, hu, hb, hB⟩ := hrel
    obtain ⟨W0, rfl⟩ : ∃ W : World, W = wr := ⟨_, rfl⟩
    have hu13 : u < 10000000000000 := Nat.lt_of_lt_of_le hu (Nat.pow_le_pow_right (by decide) hk)
    rcases Nat.eq_zero_or_pos u with rfl | hup
    · go_wp2_with fail
      go_ret
      exact ⟨⟨_, rfl⟩, hB.out⟩
    · rcases k with _ | j
      · rw [Nat.pow_zero] at hu; omega
      have hd : u / 10 < 10 ^ j := Nat.div_lt_of_lt_mul (by rw [Nat.mul_comm, ← Nat.pow_succ]; exact hu)
      have HD := Lib.hid hd
      clear hd hu hv
      obtain ⟨d, hd⟩ : ∃ d : UInt8, (d.toNat : Int) = 48 + (u : Int) % 10 := ⟨UInt8.ofNat (48 + u % 10), by rw [UInt8.toNat_ofNat']; omega⟩
      have hback : (convert 22 9 (.slice (some ⟨W0.heap.size, 0, none⟩) 1 1)).run Try.prog (W0.alloc (.cells #[.int .u8 (48 + (u : Int) % 10)] 5)) = .ok (.string ⟨#[d]⟩) (W0.alloc (.cells #[.int .u8 (48 + (u : Int) % 10)] 5)) := by
        refine run_convert_bytes_back (P := Try.prog) _ 22 9 5 ⟨W0.heap.size, 0, none⟩ 1 [d] Try.underlying22 Try.underlying5 Try.underlying9 (fun j hj => ?_)
        obtain rfl : j = 0 := by simpa using hj
        rw [← hd]
        exact (box1 (Below.refl _ _)).2.at_ 0 _ rfl
      have hq : (⟨#[d]⟩ : ByteArray).size = 1 := rfl
      have HB : Hid (Below w.heap.size w (W0.alloc (.cells #[.int .u8 (48 + (u : Int) % 10)] 5))) := Lib.hid (bthen hB.out (box1 (Below.refl _ _)).1 hB.out.size)
      clear hd
      go_wp2_with fail
      go_roundw
      case rel => exact ⟨j, u / 10, _, by first | rfl | go_num, rfl, by omega, HD.out, by rw [ByteArray.size_append, hq]; omega, HB⟩
      case measure => simp [intOf]; omega

/-! ### laws.markGaugeS -/
/-- Whatever stands under numbers written into the blocks from lo on and below hi stands of w' where it stands of w. -/
def Sets (lo hi : Nat) (w w' : World) : Prop := ∀ P : World → Prop, (∀ W p (v : Int), lo ≤ p.block → p.block < hi → P W → P (W.setCell p (.int .i64 v))) → P w → P w'
theorem Sets.refl (lo hi : Nat) (w : World) : Sets lo hi w w := fun _ _ h => h
theorem Sets.setCell {lo hi : Nat} {a w : World} (h : Sets lo hi a w) {p : Addr} (h1 : lo ≤ p.block) (h2 : p.block < hi) (v : Int) : Sets lo hi a (w.setCell p (.int .i64 v)) :=
  fun P hP ha => hP _ _ _ h1 h2 (h P hP ha)
theorem int_set {w : World} {q : Addr} {x : Int} (h : w.cell? q = some (.int .i64 x)) (p : Addr) (v : Int) : ∃ y : Int, (w.setCell p (.int .i64 v)).cell? q = some (.int .i64 y) := by
  by_cases e : p = q
  · subst e; exact ⟨v, World.cell?_setCell_same _ _ _ h⟩
  · exact ⟨x, (World.cell?_setCell_other _ _ _ _ e).trans h⟩
theorem mk2_set {w : World} {lo hi n : Nat} {A : Option Addr} (h : Mk2 w lo hi A n 0) (p : Addr) (v : Int) : Mk2 (w.setCell p (.int .i64 v)) lo hi A n 0 := fun j hj => by
  obtain ⟨g, x, y, hA, a, b, _, c0, c1, f0, f1⟩ := h j hj
  obtain ⟨x', d0⟩ := int_set c0 p v
  obtain ⟨y', d1⟩ := int_set c1 p v
  exact ⟨g, x', y', hA, a, b, fun h => absurd h (by omega), d0, d1, (World.frozen?_setCell _ _ _ _).trans f0, (World.frozen?_setCell _ _ _ _).trans f1⟩
theorem mk2_on {w w' : World} {lo hi B n : Nat} {A : Option Addr} (h : Mk2 w lo hi A n 0) (hb : Below B w w') (hB : hi ≤ B) : Mk2 w' lo hi A n 0 := fun j hj => by
  obtain ⟨g, x, y, hA, a, b, q, c0, c1, f0, f1⟩ := h j hj
  have hg := Nat.lt_of_lt_of_le b hB
  exact ⟨g, x, y, hA, a, b, q, (hb.cell (p := ⟨g, _, none⟩) hg).trans c0, (hb.cell (p := ⟨g, _, none⟩) hg).trans c1, (hb.frozen (p := ⟨g, _, none⟩) hg).trans f0, (hb.frozen (p := ⟨g, _, none⟩) hg).trans f1⟩
theorem mk2_put {w : World} {lo hi n : Nat} {A : Option Addr} (h : Mk2 w lo hi A n 0) (p : Addr) (v : Value) (hp : p.block < lo) : Mk2 (w.setCell p v) lo hi A n 0 := fun j hj => by
  obtain ⟨g, x, y, hA, a, b, q, c0, c1, f0, f1⟩ := h j hj
  have ne : ∀ o : Nat, p ≠ (⟨g, o, none⟩ : Addr) := fun o e => by subst e; simp at hp; omega
  exact ⟨g, x, y, hA, a, b, q, (World.cell?_setCell_other _ _ _ _ (ne _)).trans c0, (World.cell?_setCell_other _ _ _ _ (ne _)).trans c1, (World.frozen?_setCell _ _ _ _).trans f0, (World.frozen?_setCell _ _ _ _).trans f1⟩
set_option maxHeartbeats 800000 in
theorem markR_sets (A : Option Addr) (n c lo hi m : Nat) (w : World) (h : Mk2 w lo hi A n 0) (hm : n ≤ 1048576) (hb : m ≤ 5000000000000) :
    Calls Try.prog 60 #[.slice A n c, .int .i64 m] w fun e w' => e = .returned (.int .i64 ((m + 2 * n : Nat) : Int)) ∧ Sets lo hi w w' := by
  have H := Lib.hid h
  clear h
  go_enter Try.func60, Try.ntmps60
  go_wp2
  go_loopw [1, 5] (fun q i wr => ∃ k : Nat, k ≤ n ∧ i = .int .i64 k ∧ q = .int .i64 ((m + 2 * k : Nat) : Int) ∧ Hid (Mk2 wr lo hi A n 0 ∧ Sets lo hi w wr)) (fun _ i _ => n - (intOf i).toNat)
  case atStart => exact ⟨0, Nat.zero_le _, rfl, rfl, Lib.hid ⟨H.out, Sets.refl _ _ _⟩⟩
  case round =>
    obtain ⟨k, hk, rfl, rfl, hI⟩ := hrel
    by_cases hlt : k < n
    · obtain ⟨g, x, y, rfl, hg1, hg2, _, hc0, hc1, hf0, hf1⟩ := hI.out.1 k hlt
      have HN := Lib.hid (And.intro (mk2_set (mk2_set hI.out.1 ⟨g, k * 2, none⟩ ((m + 2 * k : Nat) : Int)) ⟨g, k * 2 + 1, none⟩ (((m + 2 * k : Nat) : Int) + 1)) ((hI.out.2.setCell (p := ⟨g, k * 2, none⟩) hg1 hg2 ((m + 2 * k : Nat) : Int)).setCell (p := ⟨g, k * 2 + 1, none⟩) hg1 hg2 (((m + 2 * k : Nat) : Int) + 1)))
      go_wp2
      go_roundw
      case rel => exact ⟨k + 1, by omega, by go_num, by go_num, HN⟩
      case measure => simp [intOf]; omega
    · obtain rfl : k = n := by omega
      go_wp2
      go_ret
      exact ⟨rfl, hI.out.2⟩
/-- Of what was there, only the blocks from lo on and below hi may have turned. -/
structure FarB (lo hi : Nat) (w w' : World) : Prop where
  os : w'.os = w.os
  tape : w'.tape = w.tape
  output : w'.output = w.output
  size : w.heap.size ≤ w'.heap.size
  block : ∀ k, k < w.heap.size → (k < lo ∨ hi ≤ k) → w'.heap[k]? = w.heap[k]?
theorem FarB.refl (lo hi : Nat) (w : World) : FarB lo hi w w := ⟨rfl, rfl, rfl, Nat.le_refl _, fun _ _ _ => rfl⟩
theorem FarB.setCell {lo hi : Nat} {a w : World} (h : FarB lo hi a w) {p : Addr} (h1 : lo ≤ p.block) (h2 : p.block < hi) (u : Value) : FarB lo hi a (w.setCell p u) :=
  ⟨h.os, h.tape, h.output, by simpa [World.setCell] using h.size, fun k hk ho => (Below.heap_setCell _ _ _ _ (by omega)).trans (h.block k hk ho)⟩
theorem FarB.next {lo hi : Nat} {a w w' : World} (h : FarB lo hi a w) (hb : Below w.heap.size w w') : FarB lo hi a w' :=
  ⟨hb.os.trans h.os, hb.tape.trans h.tape, hb.output.trans h.output, Nat.le_trans h.size hb.size, fun k hk ho => (hb.block k (Nat.lt_of_lt_of_le hk h.size)).trans (h.block k hk ho)⟩
theorem FarB.below {lo hi : Nat} {w w' : World} (h : FarB lo hi w w') {B : Nat} (hB : B ≤ lo) (hs : B ≤ w.heap.size) : Below B w w' :=
  ⟨h.os, h.tape, h.output, h.size, fun k hk => h.block k (by omega) (.inl (by omega))⟩
theorem IFun.farB {w w' : World} {lo hi lo' hi' n : Nat} {A : Option Addr} {f : Nat → Int} (h : IFun w lo hi A n f) (hf : FarB lo' hi' w w') (hs : hi ≤ w.heap.size) (hd : hi ≤ lo' ∨ hi' ≤ lo) : IFun w' lo hi A n f := fun k hk => by
  obtain ⟨g, hA, h1, h2, h3, h4⟩ := h k hk
  have hb := hf.block g (by omega) (by omega)
  exact ⟨g, hA, h1, h2, (World.cell?_of_block (a := ⟨g, k, none⟩) hb).trans h3, (World.frozen?_of_block (a := ⟨g, k, none⟩) hb).trans h4⟩
structure OG (w : World) (lo hi g n : Nat) : Prop where
  low : lo ≤ g
  lt : g < hi
  size : hi ≤ w.heap.size
  free : ∀ j, w.frozen? ⟨g, j, none⟩ = false
  cells : ∀ j, j < n → ∃ (v0 v1 v2 : Value) (A' : Option Addr) (m c : Nat), w.cell? ⟨g, j * 4, none⟩ = some v0 ∧ w.cell? ⟨g, j * 4 + 1, none⟩ = some v1 ∧ w.cell? ⟨g, j * 4 + 2, none⟩ = some v2 ∧ w.cell? ⟨g, j * 4 + 3, none⟩ = some (.slice A' m c) ∧ m ≤ 1048576 ∧ Mk2 w (g + 1) hi A' m 0
theorem og_of_fill {w : World} {B g n : Nat} {L : List GG} (h : FillG w B g n n L) (hb : n + szL L ≤ 1048576) : OG w B w.heap.size g n :=
  ⟨h.low, h.lt, Nat.le_refl _, h.free, fun j hj => by
    obtain ⟨v0, v1, v2, v3, h0, h1, h2, h3, h4⟩ := h.cells j hj
    obtain ⟨id, nm, ze, l, A', hL, rfl, rfl, rfl, rfl, ho⟩ := h4 hj
    have hz := szL_at hL
    dsimp only at hz
    exact ⟨_, _, _, A', l.length, l.length, h0, h1, h2, h3, by omega, mk2_start ho⟩⟩
theorem OG.on {w w' : World} {lo hi g n : Nat} (h : OG w lo hi g n) (hb : Below w.heap.size w w') : OG w' lo hi g n :=
  have hg := Nat.lt_of_lt_of_le h.lt h.size
  ⟨h.low, h.lt, Nat.le_trans h.size hb.size, fun j => (hb.frozen (p := ⟨g, j, none⟩) hg).trans (h.free j), fun j hj => by
    obtain ⟨v0, v1, v2, A', m, c, h0, h1, h2, h3, hm, hk⟩ := h.cells j hj
    exact ⟨v0, v1, v2, A', m, c, (hb.cell (p := ⟨g, _, none⟩) hg).trans h0, (hb.cell (p := ⟨g, _, none⟩) hg).trans h1, (hb.cell (p := ⟨g, _, none⟩) hg).trans h2, (hb.cell (p := ⟨g, _, none⟩) hg).trans h3, hm, mk2_on hk hb h.size⟩⟩
theorem OG.setInt {w : World} {lo hi g n : Nat} (h : OG w lo hi g n) (p : Addr) (v : Int) (hp : g + 1 ≤ p.block) : OG (w.setCell p (.int .i64 v)) lo hi g n :=
  ⟨h.low, h.lt, by simpa [World.setCell] using h.size, fun j => (World.frozen?_setCell _ _ _ _).trans (h.free j), fun j hj => by
    obtain ⟨v0, v1, v2, A', m, c, h0, h1, h2, h3, hm, hk⟩ := h.cells j hj
    have ne : ∀ o : Nat, p ≠ (⟨g, o, none⟩ : Addr) := fun o e => by subst e; simp at hp; omega
    have O := fun o => World.cell?_setCell_other w p ⟨g, o, none⟩ (.int .i64 v) (ne o)
    exact ⟨v0, v1, v2, A', m, c, (O _).trans h0, (O _).trans h1, (O _).trans h2, (O _).trans h3, hm, mk2_set hk p v⟩⟩
theorem cell_set {w : World} {q : Addr} {x : Value} (h : w.cell? q = some x) (p : Addr) (v : Value) : ∃ y : Value, (w.setCell p v).cell? q = some y := by
  by_cases e : p = q
  · subst e; exact ⟨v, World.cell?_setCell_same _ _ _ h⟩
  · exact ⟨x, (World.cell?_setCell_other _ _ _ _ e).trans h⟩
theorem OG.put {w : World} {lo hi g n : Nat} (h : OG w lo hi g n) (k i : Nat) (v : Value) (hi3 : i < 3) : OG (w.setCell ⟨g, k * 4 + i, none⟩ v) lo hi g n :=
  ⟨h.low, h.lt, by simpa [World.setCell] using h.size, fun j => (World.frozen?_setCell _ _ _ _).trans (h.free j), fun j hj => by
    obtain ⟨v0, v1, v2, A', m, c, h0, h1, h2, h3, hm, hk⟩ := h.cells j hj
    obtain ⟨y0, e0⟩ := cell_set h0 ⟨g, k * 4 + i, none⟩ v
    obtain ⟨y1, e1⟩ := cell_set h1 ⟨g, k * 4 + i, none⟩ v
    obtain ⟨y2, e2⟩ := cell_set h2 ⟨g, k * 4 + i, none⟩ v
    exact ⟨y0, y1, y2, A', m, c, e0, e1, e2, (World.cell?_setCell_other _ _ _ _ (fun e => by injection e with _ e; omega)).trans h3, hm, mk2_put hk _ v (Nat.lt_succ_self _)⟩⟩
set_option maxRecDepth 100000 in
set_option maxHeartbeats 1600000 in
theorem markGs_any (g n c lo hi : Nat) (w : World) (h : OG w lo hi g n) (hm : n ≤ 1048576) :
    Calls Try.prog 63 #[.slice (some ⟨g, 0, none⟩) n c, .int .i64 1] w fun e w' => (∃ m : Nat, e = .returned (.int .i64 m) ∧ m ≤ 5000000000000) ∧ FarB g hi w w' := by
  have H := Lib.hid h
  clear h
  go_enter Try.func63, Try.ntmps63
  go_wp2_with fail
  go_loopw [1, 5] (fun q i wr => ∃ k m : Nat, k ≤ n ∧ i = .int .i64 k ∧ q = .int .i64 m ∧ m ≤ 1 + k * 2097155 ∧ Hid (OG wr lo hi g n) ∧ Hid (FarB g hi w wr)) (fun _ i _ => n - (intOf i).toNat)
  case atStart => exact ⟨0, 1, Nat.zero_le _, rfl, rfl, by omega, H, Lib.hid (FarB.refl _ _ _)⟩
  case round =>
    obtain ⟨k, m, hk, rfl, rfl, hmb, hO, hF⟩ := hrel
    obtain ⟨W0, rfl⟩ : ∃ W : World, W = wr := ⟨_, rfl⟩
    by_cases hlt : k < n
    · have HLT := Lib.hid hO.out.lt
      obtain ⟨v0, _, _, _, _, _, h0, _, _, _, _, _⟩ := hO.out.cells k hlt
      have f0 := hO.out.free (k * 4)
      have HO1 : Hid (OG (W0.setCell ⟨g, k * 4, none⟩ (.int .i64 m)) lo hi g n) := Lib.hid (hO.out.put k 0 _ (by decide))
      have HF1 : Hid (FarB g hi w (W0.setCell ⟨g, k * 4, none⟩ (.int .i64 m))) := Lib.hid (hF.out.setCell (Nat.le_refl _) HLT.out _)
      have h13 : m + 1 < 10 ^ 13 := by omega
      have H13 := Lib.hid h13
      clear h13
      go_wp2_with fail
      refine (markText_any (m + 1) _ H13.out).mono ?_
      rintro e w2 ⟨⟨s, rfl⟩, hb⟩
      have HO2 := Lib.hid (HO1.out.on hb)
      have HF2 := Lib.hid (HF1.out.next hb)
      clear hb h0 f0
      obtain ⟨_, v1, v2, A', m', c', _, h1, h2, h3, hm', hmk⟩ := HO2.out.cells k hlt
      have f1 := HO2.out.free (k * 4 + 1)
      have f2 := HO2.out.free (k * 4 + 2)
      have HO3 : Hid (OG ((w2.setCell ⟨g, k * 4 + 1, none⟩ (.string s)).setCell ⟨g, k * 4 + 2, none⟩ (.int .i64 ((m : Int) + 1 + 1))) lo hi g n) := Lib.hid ((HO2.out.put k 1 _ (by decide)).put k 2 _ (by decide))
      have HF3 : Hid (FarB g hi w ((w2.setCell ⟨g, k * 4 + 1, none⟩ (.string s)).setCell ⟨g, k * 4 + 2, none⟩ (.int .i64 ((m : Int) + 1 + 1)))) := Lib.hid ((HF2.out.setCell (Nat.le_refl _) HLT.out _).setCell (Nat.le_refl _) HLT.out _)
      have HMK : Hid (Mk2 ((w2.setCell ⟨g, k * 4 + 1, none⟩ (.string s)).setCell ⟨g, k * 4 + 2, none⟩ (.int .i64 ((m : Int) + 1 + 1))) (g + 1) hi A' m' 0) := Lib.hid (mk2_put (mk2_put hmk _ _ (Nat.lt_succ_self _)) _ _ (Nat.lt_succ_self _))
      have HC := Lib.hid (markR_sets A' m' c' (g + 1) hi (m + 3) _ HMK.out hm' (by omega))
      have e3 : ((m + 3 : Nat) : Int) = (m : Int) + 1 + 1 + 1 := by omega
      rw [e3] at HC
      clear hmk e3
      go_wp2_with fail
      refine HC.out.mono ?_
      rintro e w5 ⟨rfl, hS⟩
      have HO5 := Lib.hid (hS (fun W => OG W lo hi g n ∧ FarB g hi w W) (fun W p v h1 h2 h => ⟨h.1.setInt p v h1, h.2.setCell (by omega) h2 _⟩) ⟨HO3.out, HF3.out⟩)
      clear hS h1 h2 h3 f1 f2
      go_wp2_with fail
      go_roundw
      case rel => exact ⟨k + 1, m + 3 + 2 * m', by omega, by go_num, rfl, by omega, Lib.hid HO5.out.1, Lib.hid HO5.out.2⟩
      case measure => simp [intOf]; omega
    · obtain rfl : k = n := by omega
      go_wp2_with fail
      go_ret
      exact ⟨⟨m, rfl, by omega⟩, hF.out⟩
theorem eqI_b (A A' : Option Addr) (n c c' lo hi lo' hi' : Nat) (f : Nat → Int) (w : World) (h1 : IFun w lo hi A n f) (h2 : IFun w lo' hi' A' n f) (hm : n ≤ 1048576) :
    Calls Try.prog 62 #[.slice A n c, .slice A' n c'] w fun e w' => e = .returned (.bool true) ∧ Below w.heap.size w w' :=
  (eqI_same A A' n c c' lo hi lo' hi' f w h1 h2 hm).mono fun _ w' h => ⟨h.1, by obtain ⟨_, k, rfl⟩ := h; exact bdrewN (Below.refl _ _) k⟩
end Go.Proofs.Ytcimpnecjlpkoaa
