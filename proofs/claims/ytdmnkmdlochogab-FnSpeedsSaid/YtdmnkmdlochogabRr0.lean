/-
  Rows of casts that are drawn, as they lie. Conditions: stated at each theorem.
-/
import Derived.Test.YtdmnkmdlochogabRj0
import Derived.Test.YtdmnkmdlochogabZo
namespace Go.Proofs.Ytdmnkmdlochogab
open Go.RowKit Go.Sort
set_option linter.unusedVariables false

/-- A cast as it lies: its layers l stand in a row with address R and room for c. -/
structure KV where
  id : Int
  tm : Int
  sp : Int × Int
  R : Option Addr
  c : Nat
  l : List (Int × Int)
def KV.k (v : KV) : KC := ⟨v.id, v.tm, v.sp.1, v.sp.2, v.l⟩
def cV (v : KV) : List Value := [.int .i64 v.id, .int .i64 v.tm, .int .i64 v.sp.1, .int .i64 v.sp.2, .slice v.R v.l.length v.c]
def cellsV (L : List KV) : List Value := L.flatMap cV
theorem flat5 (f : KV → List Value) (hf : ∀ v, (f v).length = 5) : ∀ (L : List KV) (k i : Nat) (v : KV), L[k]? = some v → i < 5 → (L.flatMap f)[k * 5 + i]? = (f v)[i]? := by
  intro L
  induction L with
  | nil => intro k i v h; simp at h
  | cons a L ih =>
    intro k i v h hi
    rw [List.flatMap_cons]
    rcases k with _ | k
    · obtain rfl : a = v := by simpa using h
      rw [List.getElem?_append_left (by rw [hf]; omega), Nat.zero_mul, Nat.zero_add]
    · rw [List.getElem?_append_right (by rw [hf]; omega), hf, show (k + 1) * 5 + i - 5 = k * 5 + i by omega]
      exact ih k i v (by simpa using h) hi
theorem cellsV_len (L : List KV) : (cellsV L).length = L.length * 5 := by
  induction L with
  | nil => rfl
  | cons a L ih =>
    have : cellsV (a :: L) = cV a ++ cellsV L := rfl
    rw [this, List.length_append, ih]
    simp only [cV, List.length_cons, List.length_nil]; omega
theorem cellsV_at (L : List KV) (k i : Nat) (v : KV) (h : L[k]? = some v) (hi : i < 5) : (cellsV L)[k * 5 + i]? = (cV v)[i]? := flat5 _ (fun _ => rfl) L k i v h hi
theorem cellsV_one (L : List KV) : ∀ u ∈ cellsV L, u.oneCell' = true := by
  intro u hu
  simp only [cellsV, cV, List.mem_flatMap, List.mem_cons, List.not_mem_nil, or_false] at hu
  obtain ⟨p, _, rfl | rfl | rfl | rfl | rfl⟩ := hu <;> rfl
/-- A row of the call's own that holds the casts L. -/
def RK (base : Nat) (L : List KV) (v : Value) (W : World) : Prop := W.ownsRow base 64 5 v L.length (cellsV L)
theorem RK.new (W : World) : RK W.heap.size [] (.slice (some ⟨W.heap.size, 0, none⟩) 0 0) (W.alloc (.cells #[] 64)) :=
  World.ownsRow_made (base := W.heap.size) (e := 64) (size := 5) W #[] 0 (Nat.le_refl _) (by unfold maxLen; omega) (by simp)
theorem RK.low {base base' : Nat} {L : List KV} {v : Value} {W : World} (h : RK base L v W) (hb : base' ≤ base) : RK base' L v W := own_base h hb
theorem RK.draw {base : Nat} {L : List KV} {v : Value} {W W' : World} {g : Nat} (h : RK base L v W) (hg : W.grownBy W' (some g)) (hb : g < base) : RK base L v W' := own_any h hg (fun i e => by have := Option.some.inj e; omega)
theorem RK.alloc {base : Nat} {L : List KV} {v : Value} {W : World} (h : RK base L v W) (o : Obj) : RK base L v (W.alloc o) := World.ownsRow.alloc h o
theorem RK.below {base : Nat} {L : List KV} {v : Value} {W W' : World} (h : RK base L v W) (hb : Below W.heap.size W W') : RK base L v W' := own_below h hb
theorem RK.slice {base : Nat} {L : List KV} {v : Value} {W : World} (h : RK base L v W) (hn : v ≠ .slice none 0 0) : ∃ gb cap, v = .slice (some ⟨gb, 0, none⟩) L.length cap ∧ base ≤ gb ∧ gb < W.heap.size := by
  rcases h.2 with ⟨e, _⟩ | ⟨gb, cap, cur, hv, hb, hc, _⟩
  · exact absurd e hn
  · exact ⟨gb, cap, hv, hb, (Array.getElem?_eq_some_iff.1 hc).1⟩
theorem RK.more {base : Nat} {L M : List KV} {v : Value} {W : World} (h : W.ownsRow base 64 5 v (L.length + M.length) (cellsV L ++ cellsV M)) : RK base (L ++ M) v W := by
  unfold RK
  have e : cellsV (L ++ M) = cellsV L ++ cellsV M := by simp [cellsV]
  rw [List.length_append, e]
  exact h
theorem RK.cap {base : Nat} {L : List KV} {gb cap : Nat} {W : World} (h : RK base L (.slice (some ⟨gb, 0, none⟩) L.length cap) W) : L.length ≤ cap := by
  rcases h.2 with ⟨e, _⟩ | ⟨g, cap', cur, hv, _, _, hc, _⟩
  · cases e
  · injection hv with _ _ h3
    omega
/-- A row of casts does not lie in a block of layers. -/
theorem RK.apart {base : Nat} {L : List KV} {v : Value} {W : World} (h : RK base L v W) {g : Nat} {cur : Array Value} (hg : W.heap[g]? = some (.cells cur 140 (0, 0))) : v.ownBlock ≠ some g := by
  rcases h.2 with ⟨rfl, _⟩ | ⟨gb, cap, cur', rfl, hb, hc, _⟩
  · simp [Value.ownBlock]
  · intro e
    obtain rfl : gb = g := Option.some.inj e
    rw [hg] at hc
    injection hc with hc
    injection hc with _ h2
    exact absurd h2 (by decide)
/-! ### The rows within -/
theorem Own2.kept5 {W W' : World} {lo hi n : Nat} {A : Option Addr} {l : List (Int × Int)} {r : Option Nat} (h : Own2 W lo hi A n l) (hg : W.grownBy W' r) (hs : hi ≤ W.heap.size) (hr : ∀ g, A = some ⟨g, 0, none⟩ → r ≠ some g) : Own2 W' lo hi A n l :=
  ⟨h.1, fun k hk => by
    obtain ⟨g, x, y, hA, h1, h2, hl, c0, c1, f0, f1⟩ := h.2 k hk
    have hb := hg.block g (by omega) (fun e => hr g hA e.symm)
    exact ⟨g, x, y, hA, h1, h2, hl, (World.cell?_of_block (a := ⟨g, _, none⟩) hb).trans c0, (World.cell?_of_block (a := ⟨g, _, none⟩) hb).trans c1, (World.frozen?_of_block (a := ⟨g, _, none⟩) hb).trans f0, (World.frozen?_of_block (a := ⟨g, _, none⟩) hb).trans f1⟩⟩
theorem OwnL.keep {W W' : World} {lo hi n : Nat} {A : Option Addr} {l : List (Int × Int)} {r : Option Nat} (h : OwnL W lo hi A n l) (hg : W.grownBy W' r) (hs : hi ≤ W.heap.size) (hr : ∀ g, A = some ⟨g, 0, none⟩ → r ≠ some g) : OwnL W' lo hi A n l := ⟨h.1.kept5 hg hs hr, h.2.keep hg hr⟩
theorem OwnL.wide {W : World} {lo hi lo' hi' n : Nat} {A : Option Addr} {l : List (Int × Int)} (h : OwnL W lo hi A n l) (h1 : lo' ≤ lo) (h2 : hi ≤ hi') : OwnL W lo' hi' A n l := ⟨h.1.wide h1 h2, h.2.low h1⟩
theorem OwnL.draw {W W' : World} {lo hi n g : Nat} {A : Option Addr} {l : List (Int × Int)} (h : OwnL W lo hi A n l) (hg : W.grownBy W' (some g)) (hs : hi ≤ W.heap.size) (hb : g < lo) : OwnL W' lo hi A n l :=
  h.keep hg hs (fun g' hR e => by have h1 := (h.2 g' hR).1; have h2 := Option.some.inj e; omega)
theorem OwnL.one (W : World) (x y : Int) {lo : Nat} (hl : lo ≤ W.heap.size) : OwnL (W.alloc (.cells #[.int .i64 x, .int .i64 y] 140)) lo (W.heap.size + 1) (some ⟨W.heap.size, 0, none⟩) 1 [(x, y)] := by
  have h : Has (W.alloc (.cells #[.int .i64 x, .int .i64 y] 140)) W.heap.size [.int .i64 x, .int .i64 y] := by simpa using Has.new W #[.int .i64 x, .int .i64 y] 140
  refine ⟨⟨rfl, fun k hk => ?_⟩, fun g hg => ?_⟩
  · obtain rfl : k = 0 := by omega
    exact ⟨W.heap.size, x, y, rfl, hl, Nat.lt_succ_self _, rfl, h.at_ 0 _ rfl, h.at_ 1 _ rfl, h.free 0, h.free 1⟩
  · simp only [Option.some.injEq, Addr.mk.injEq, and_true] at hg
    subst hg
    exact ⟨hl, #[.int .i64 x, .int .i64 y], by show (W.heap.push _)[W.heap.size]? = _; simp⟩
def InK (W : World) (lo hi : Nat) (L : List KV) : Prop := ∀ v ∈ L, v.l.length ≤ 9 ∧ OwnL W lo hi v.R v.l.length v.l
theorem InK.draw {W W' : World} {lo g : Nat} {L : List KV} (h : InK W lo W.heap.size L) (hg : W.grownBy W' (some g)) (hb : g < lo) : InK W' lo W'.heap.size L :=
  fun v hv => ⟨(h v hv).1, ((h v hv).2.draw hg (Nat.le_refl _) hb).wide (Nat.le_refl _) hg.size⟩
theorem InK.alloc {W : World} {lo : Nat} {L : List KV} (h : InK W lo W.heap.size L) (o : Obj) : InK (W.alloc o) lo (W.alloc o).heap.size L :=
  fun v hv => ⟨(h v hv).1, ((h v hv).2.keep (World.grownBy_alloc W o none) (Nat.le_refl _) (fun _ _ e => by cases e)).wide (Nat.le_refl _) (by simp)⟩
/-- What an append to a row of casts leaves of the rows within. -/
theorem InK.append {W W' : World} {lo base : Nat} {L M : List KV} {v : Value} (h : InK W lo W.heap.size L) (hr : RK base M v W) (hg : W.grownBy W' v.ownBlock) : InK W' lo W'.heap.size L :=
  fun u hu => ⟨(h u hu).1, ((h u hu).2.keep hg (Nat.le_refl _) (fun g hR e => by
    obtain ⟨_, cur, hc⟩ := (h u hu).2.2 g hR
    exact hr.apart hc e)).wide (Nat.le_refl _) hg.size⟩
theorem InK.more {W : World} {lo hi : Nat} {L : List KV} {v : KV} (h : InK W lo hi L) (h1 : v.l.length ≤ 9) (h3 : OwnL W lo hi v.R v.l.length v.l) : InK W lo hi (L ++ [v]) := fun u hu => by
  rcases List.mem_append.1 hu with h4 | h4
  · exact h u h4
  · rw [List.mem_singleton.1 h4]; exact ⟨h1, h3⟩
theorem InK.nil (W : World) (lo hi : Nat) : InK W lo hi [] := fun v hv => by cases hv
theorem casts_of {base gb cap : Nat} {L : List KV} {W : World} (h : RK base L (.slice (some ⟨gb, 0, none⟩) L.length cap) W) (hi : InK W base W.heap.size L) : Casts W W.heap.size (some ⟨gb, 0, none⟩) L.length (L.map KV.k) :=
  ⟨by simp, fun k hk => by
    obtain ⟨v, hv⟩ : ∃ v, L[k]? = some v := ⟨_, List.getElem?_eq_getElem hk⟩
    have hc : ∀ i, i < 5 → W.cell? ⟨gb, k * 5 + i, none⟩ = (cV v)[i]? := fun i hi => (World.ownsRow.cellAt h (k * 5 + i) (by omega)).trans (cellsV_at L k i v hv hi)
    obtain ⟨h1, h2⟩ := hi v (List.mem_of_getElem? hv)
    refine ⟨gb, 0, v.id, v.tm, v.sp.1, v.sp.2, v.l, v.R, v.c, rfl, (World.ownsRow.lt h gb rfl).2, by rw [List.getElem?_map, hv]; rfl, ?_, ?_, ?_, ?_, ?_, h2.1.spots (Nat.le_refl _), by unfold maxLen; omega⟩
    · rw [Nat.zero_add]; exact hc 0 (by decide)
    · rw [Nat.zero_add]; exact hc 1 (by decide)
    · rw [Nat.zero_add]; exact hc 2 (by decide)
    · rw [Nat.zero_add]; exact hc 3 (by decide)
    · rw [Nat.zero_add]; exact hc 4 (by decide)⟩
theorem cells_oneV (w : World) (v : KV) : ∀ j u, (cellsV [v])[j]? = some u → (w.alloc (.cells #[.int .i64 v.id, .int .i64 v.tm, .int .i64 v.sp.1, .int .i64 v.sp.2, .slice v.R v.l.length v.c] 64)).cell? ((⟨w.heap.size, 0, none⟩ : Addr).add j) = some u := by
  intro j u hu
  have h := Has.new w #[.int .i64 v.id, .int .i64 v.tm, .int .i64 v.sp.1, .int .i64 v.sp.2, .slice v.R v.l.length v.c] 64
  have he : cellsV [v] = cV v := rfl
  have hadd : (⟨w.heap.size, 0, none⟩ : Addr).add j = ⟨w.heap.size, j, none⟩ := by unfold Addr.add; split <;> simp_all
  rw [hadd]
  exact h.2.1 j u (by rw [he] at hu; simpa [cV] using hu)
end Go.Proofs.Ytdmnkmdlochogab
