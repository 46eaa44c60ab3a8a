/-
  Gauges that are drawn: contracts of spec.l1Cur.gauges, gaugeId, spec.DrawIsGauge, DrawHighWaters, DrawAreGauges, DrawCommonTimes, DrawZeroError over this translation. Conditions: stated at each theorem.
-/
import Derived.Test.YtdmnkmdlochogaaDl
import Derived.Test.YtdmnkmdlochogaaAgs
import Derived.Laws.IdiomStrings
import Derived.Deep.DeepCutAuto
namespace Go.Proofs.Ytdmnkmdlochogaa
open Go.RowKit Go.Sort Go.Deep

/-- A gauge as it lies: its readings l stand in a row with address R and room for c. -/
structure GV where
  id : Int
  nm : ByteArray
  ze : Int
  R : Option Addr
  c : Nat
  l : List (Int × Int)
def GV.g (v : GV) : GG := ⟨v.id, v.nm, v.ze, v.l⟩
def cG (v : GV) : List Value := [.int .i64 v.id, .string v.nm, .int .i64 v.ze, .slice v.R v.l.length v.c]
def cellsG (L : List GV) : List Value := L.flatMap cG
theorem flat4 (f : GV → List Value) (hf : ∀ v, (f v).length = 4) : ∀ (L : List GV) (k i : Nat) (v : GV), L[k]? = some v → i < 4 → (L.flatMap f)[k * 4 + i]? = (f v)[i]? := by
  intro L
  induction L with
  | nil => intro k i v h; simp at h
  | cons a L ih =>
    intro k i v h hi
    rw [List.flatMap_cons]
    rcases k with _ | k
    · obtain rfl : a = v := by simpa using h
      rw [List.getElem?_append_left (by rw [hf]; omega), Nat.zero_mul, Nat.zero_add]
    · rw [List.getElem?_append_right (by rw [hf]; omega), hf, show (k + 1) * 4 + i - 4 = k * 4 + i by omega]
      exact ih k i v (by simpa using h) hi
theorem cellsG_len (L : List GV) : (cellsG L).length = L.length * 4 := by
  induction L with
  | nil => rfl
  | cons a L ih =>
    have : cellsG (a :: L) = cG a ++ cellsG L := rfl
    rw [this, List.length_append, ih]
    simp only [cG, List.length_cons, List.length_nil]; omega
theorem cellsG_at (L : List GV) (k i : Nat) (v : GV) (h : L[k]? = some v) (hi : i < 4) : (cellsG L)[k * 4 + i]? = (cG v)[i]? := flat4 _ (fun _ => rfl) L k i v h hi
theorem cellsG_one (L : List GV) : ∀ u ∈ cellsG L, u.oneCell' = true := by
  intro u hu
  simp only [cellsG, cG, List.mem_flatMap, List.mem_cons, List.not_mem_nil, or_false] at hu
  obtain ⟨p, _, rfl | rfl | rfl | rfl⟩ := hu <;> rfl
/-- A row of the call's own that holds the gauges L. -/
def RG (base : Nat) (L : List GV) (v : Value) (W : World) : Prop := W.ownsRow base 26 4 v L.length (cellsG L)
theorem RG.new (W : World) : RG W.heap.size [] (.slice (some ⟨W.heap.size, 0, none⟩) 0 0) (W.alloc (.cells #[] 26)) :=
  World.ownsRow_made (base := W.heap.size) (e := 26) (size := 4) W #[] 0 (Nat.le_refl _) (by unfold maxLen; omega) (by simp)
theorem RG.low {base base' : Nat} {L : List GV} {v : Value} {W : World} (h : RG base L v W) (hb : base' ≤ base) : RG base' L v W := own_base h hb
theorem RG.draw {base : Nat} {L : List GV} {v : Value} {W W' : World} {g : Nat} (h : RG base L v W) (hg : W.grownBy W' (some g)) (hb : g < base) : RG base L v W' := own_any h hg (fun i e => by have := Option.some.inj e; omega)
theorem RG.alloc {base : Nat} {L : List GV} {v : Value} {W : World} (h : RG base L v W) (o : Obj) : RG base L v (W.alloc o) := World.ownsRow.alloc h o
theorem RG.past {base : Nat} {L : List GV} {v : Value} {W0 W W' : World} {r : Option Nat} (h0 : RG base L v W0) (h : RG base L v W) (hg : W.grownBy W' r) (hr : ∀ b, r = some b → W0.heap.size ≤ b) : RG base L v W' := by
  refine World.ownsRow.kept h hg ?_
  by_cases e : v.ownBlock = none
  · exact .inl e
  · refine .inr fun e2 => ?_
    obtain ⟨b, hb⟩ := Option.ne_none_iff_exists'.1 e
    have h1 := (World.ownsRow.lt h0 b hb).2
    have h2 := hr b (e2.symm.trans hb)
    omega
theorem RG.below {base : Nat} {L : List GV} {v : Value} {W W' : World} (h : RG base L v W) (hb : Below W.heap.size W W') : RG base L v W' := own_below h hb
theorem RG.slice {base : Nat} {L : List GV} {v : Value} {W : World} (h : RG base L v W) (hn : v ≠ .slice none 0 0) : ∃ gb cap, v = .slice (some ⟨gb, 0, none⟩) L.length cap ∧ base ≤ gb ∧ gb < W.heap.size := by
  rcases h.2 with ⟨e, _⟩ | ⟨gb, cap, cur, hv, hb, hc, _⟩
  · exact absurd e hn
  · exact ⟨gb, cap, hv, hb, (Array.getElem?_eq_some_iff.1 hc).1⟩
theorem RG.cells {base : Nat} {L : List GV} {gb cap m : Nat} {W : World} (h : RG base L (.slice (some ⟨gb, 0, none⟩) m cap) W) : ∀ j u, (cellsG L)[j]? = some u → W.cell? ((⟨gb, 0, none⟩ : Addr).add j) = some u := World.ownsRow.cells h rfl
theorem RG.more {base : Nat} {L M : List GV} {v : Value} {W : World} (h : W.ownsRow base 26 4 v (L.length + M.length) (cellsG L ++ cellsG M)) : RG base (L ++ M) v W := by
  unfold RG
  have e : cellsG (L ++ M) = cellsG L ++ cellsG M := by simp [cellsG]
  rw [List.length_append, e]
  exact h
theorem RG.cap {base : Nat} {L : List GV} {gb cap : Nat} {W : World} (h : RG base L (.slice (some ⟨gb, 0, none⟩) L.length cap) W) : L.length ≤ cap := by
  rcases h.2 with ⟨e, _⟩ | ⟨g, cap', cur, hv, _, _, hc, _⟩
  · cases e
  · injection hv with _ _ h3
    omega
/-! ### The rows within -/
theorem Own2.kept {W W' : World} {lo hi n : Nat} {A : Option Addr} {l : List (Int × Int)} {r : Option Nat} (h : Own2 W lo hi A n l) (hg : W.grownBy W' r) (hs : hi ≤ W.heap.size) (hr : ∀ b, r = some b → b < lo ∨ hi ≤ b) : Own2 W' lo hi A n l :=
  ⟨h.1, fun k hk => by
    obtain ⟨g, x, y, hA, h1, h2, hl, c0, c1, f0, f1⟩ := h.2 k hk
    have hb := hg.block g (by omega) (fun e => by have := hr g e.symm; omega)
    exact ⟨g, x, y, hA, h1, h2, hl, (World.cell?_of_block (a := ⟨g, _, none⟩) hb).trans c0, (World.cell?_of_block (a := ⟨g, _, none⟩) hb).trans c1, (World.frozen?_of_block (a := ⟨g, _, none⟩) hb).trans f0, (World.frozen?_of_block (a := ⟨g, _, none⟩) hb).trans f1⟩⟩
def Ins (W : World) (lo hi : Nat) (L : List GV) : Prop := ∀ v ∈ L, v.l.length ≤ 24 ∧ v.nm.size ≤ 11 ∧ Own2 W lo hi v.R v.l.length v.l
theorem Ins.kept {W W' : World} {lo hi : Nat} {L : List GV} {r : Option Nat} (h : Ins W lo hi L) (hg : W.grownBy W' r) (hs : hi ≤ W.heap.size) (hr : ∀ b, r = some b → b < lo ∨ hi ≤ b) : Ins W' lo hi L :=
  fun v hv => ⟨(h v hv).1, (h v hv).2.1, (h v hv).2.2.kept hg hs hr⟩
theorem Ins.wide {W : World} {lo hi lo' hi' : Nat} {L : List GV} (h : Ins W lo hi L) (h1 : lo' ≤ lo) (h2 : hi ≤ hi') : Ins W lo' hi' L :=
  fun v hv => ⟨(h v hv).1, (h v hv).2.1, (h v hv).2.2.wide h1 h2⟩
theorem Ins.draw {W W' : World} {lo g : Nat} {L : List GV} (h : Ins W lo W.heap.size L) (hg : W.grownBy W' (some g)) (hb : g < lo) : Ins W' lo W'.heap.size L :=
  (h.kept hg (Nat.le_refl _) (fun b e => by have := Option.some.inj e; omega)).wide (Nat.le_refl _) hg.size
theorem Ins.more {W : World} {lo hi : Nat} {L : List GV} {v : GV} (h : Ins W lo hi L) (h1 : v.l.length ≤ 24) (h2 : v.nm.size ≤ 11) (h3 : Own2 W lo hi v.R v.l.length v.l) : Ins W lo hi (L ++ [v]) := fun u hu => by
  rcases List.mem_append.1 hu with h4 | h4
  · exact h u h4
  · rw [List.mem_singleton.1 h4]; exact ⟨h1, h2, h3⟩
theorem gauges_of {base gb cap : Nat} {L : List GV} {W : World} (h : RG base L (.slice (some ⟨gb, 0, none⟩) L.length cap) W) (hi : Ins W base W.heap.size L) : Gauges W W.heap.size (some ⟨gb, 0, none⟩) L.length (L.map GV.g) :=
  ⟨by simp, fun k hk => by
    obtain ⟨v, hv⟩ : ∃ v, L[k]? = some v := ⟨_, List.getElem?_eq_getElem hk⟩
    have hc : ∀ i, i < 4 → W.cell? ⟨gb, k * 4 + i, none⟩ = (cG v)[i]? := fun i hi => (World.ownsRow.cellAt h (k * 4 + i) (by omega)).trans (cellsG_at L k i v hv hi)
    obtain ⟨h1, h2, h3⟩ := hi v (List.mem_of_getElem? hv)
    refine ⟨gb, 0, v.id, v.nm, v.ze, v.l, v.R, v.c, rfl, (World.ownsRow.lt h gb rfl).2, by rw [List.getElem?_map, hv]; rfl, ?_, ?_, ?_, ?_, h3.spots (Nat.le_refl _), by unfold maxLen; omega, by unfold maxLen; omega⟩
    · rw [Nat.zero_add]; exact hc 0 (by decide)
    · rw [Nat.zero_add]; exact hc 1 (by decide)
    · rw [Nat.zero_add]; exact hc 2 (by decide)
    · rw [Nat.zero_add]; exact hc 3 (by decide)⟩
theorem cells_oneG (w : World) (v : GV) : ∀ j u, (cellsG [v])[j]? = some u → (w.alloc (.cells #[.int .i64 v.id, .string v.nm, .int .i64 v.ze, .slice v.R v.l.length v.c] 26)).cell? ((⟨w.heap.size, 0, none⟩ : Addr).add j) = some u := by
  intro j u hu
  have h := Has.new w #[.int .i64 v.id, .string v.nm, .int .i64 v.ze, .slice v.R v.l.length v.c] 26
  have he : cellsG [v] = cG v := rfl
  have hadd : (⟨w.heap.size, 0, none⟩ : Addr).add j = ⟨w.heap.size, j, none⟩ := by unfold Addr.add; split <;> simp_all
  rw [hadd]
  exact h.2.1 j u (by rw [he] at hu; simpa [cG] using hu)
/-! ### gauges -/
def Nils (L : List GV) : Prop := ∀ v ∈ L, v.l = [] ∧ v.nm.size ≤ 11
theorem Nils.ins {L : List GV} (h : Nils L) (W : World) (lo hi : Nat) : Ins W lo hi L := fun v hv => by
  obtain ⟨h1, h2⟩ := h v hv
  rw [h1]
  exact ⟨by simp, h2, Own2.nil _ _ _ _⟩
theorem Nils.more {L : List GV} {v : GV} (h : Nils L) (h1 : v.l = []) (h2 : v.nm.size ≤ 11) : Nils (L ++ [v]) := fun u hu => by
  rcases List.mem_append.1 hu with h3 | h3
  · exact h u h3
  · rw [List.mem_singleton.1 h3]; exact ⟨h1, h2⟩
/-- What gauges hands back. -/
def GaugesPost (B : Nat) (A : Option Addr) (n c g k : Nat) (w : World) (e : Ending) (w' : World) : Prop :=
  ∃ (L : List GV) (gb cap k' : Nat), L.length ≤ 7 ∧ k' ≤ k + 2000 ∧ w.heap.size ≤ gb ∧ e = .returned (.slice (some ⟨gb, 0, none⟩) L.length cap) ∧ RG w.heap.size L (.slice (some ⟨gb, 0, none⟩) L.length cap) w' ∧ Ins w' w.heap.size w'.heap.size L ∧ Cur B A n c g k' w' ∧ w.grownBy w' (some g)
set_option maxRecDepth 100000 in
set_option maxHeartbeats 6400000 in
theorem gauges_any (B : Nat) (A : Option Addr) (n c g k : Nat) (w : World) (h : Cur B A n c g k w) (hk : k < 700000) :
    Calls Try.prog 98 #[.pointer (some ⟨g, 0, none⟩)] w (GaugesPost B A n c g k w) := by
  obtain ⟨i0, hi, hz0, hz1, hz2⟩ := info_parts infoGauge
  have HI := Lib.hid (And.intro hi (And.intro hz0 (And.intro hz1 hz2)))
  clear hi hz0 hz1 hz2
  have hgl := h.lt
  have HC0 := Lib.hid (h.alloc (.cells #[] 26))
  have HG0 : Hid (w.grownBy (w.alloc (.cells #[] 26)) (some g)) := Lib.hid (World.grownBy_alloc _ _ _)
  have HR0 := Lib.hid (RG.new w)
  clear h
  go_enter Try.func98, Try.ntmps98
  go_wp2_with fail
  refine (pick_any _ _ _ _ _ _ 5 _ HC0.out (by omega) (by decide) (by decide)).mono ?_
  rintro e w1 ⟨q, hq, rfl, hc, hg⟩
  have HC1 := Lib.hid hc
  have HG1 := Lib.hid (grown_trans HG0.out hg)
  have HR1 := Lib.hid (HR0.out.draw hg hgl)
  clear hc hg HC0 HG0 HR0
  go_wp2_with fail
  go_loopw [3, 4, 5] (fun s x i wr => ∃ (L : List GV) (gb cap k' r : Nat) (y : Int), L.length + r ≤ 4 ∧ k' + 300 * r ≤ k + 1500 ∧ 0 ≤ y ∧ y + 3 * r ≤ 20 ∧ w.heap.size ≤ gb ∧ s = .slice (some ⟨gb, 0, none⟩) L.length cap ∧ x = .int .i64 y ∧ i = .int .i64 r ∧ Hid (Ins wr w.heap.size wr.heap.size L) ∧ Hid (RG w.heap.size L (.slice (some ⟨gb, 0, none⟩) L.length cap) wr) ∧ Hid (Cur B A n c g k' wr) ∧ Hid (w.grownBy wr (some g))) (fun _ _ i _ => (intOf i).toNat)
  case atStart => exact ⟨[], w.heap.size, 0, k + 1, q, 0, by simp; omega, by omega, by omega, by omega, Nat.le_refl _, rfl, rfl, rfl, Lib.hid (fun v hv => by cases hv), HR1, HC1, HG1⟩
  case round =>
    obtain ⟨L, gb, cap, k', r, y, hr5, hk2, hy0, hy1, hgb, rfl, rfl, rfl, hN, hR, hC, hG⟩ := hrel
    rcases Nat.eq_zero_or_pos r with h0 | h0
    · subst h0
      go_wp2_with fail
      refine (one_any _ _ _ _ _ _ 24 _ hC.out (by omega) (by decide) (by decide)).mono ?_
      rintro e w2 ⟨b, rfl, hc, hg⟩
      have HC2 := Lib.hid hc
      have HG2 := Lib.hid (grown_trans hG.out hg)
      have HR2 := Lib.hid (hR.out.draw hg hgl)
      have HN2 := Lib.hid (hN.out.draw hg hgl)
      clear hc hg hC hG hR hN
      rcases b with _ | _
      · go_wp2_with fail
        go_ret
        exact ⟨L, gb, cap, _, by omega, by omega, hgb, rfl, HR2.out, HN2.out, HC2.out, HG2.out⟩
      · have HR3 := Lib.hid ((RG.new w2).low HG2.out.size)
        have HC3 := Lib.hid (HC2.out.alloc (.cells #[] 26))
        have HG3 := Lib.hid (grown_trans HG2.out (World.grownBy_alloc w2 (.cells #[] 26) (some g)))
        have hgb2 : w.heap.size ≤ w2.heap.size := HG2.out.size
        clear HR2 HC2 HG2 HN2
        go_wp2_with fail
        go_loopw [3, 7] (fun s i wr => ∃ (L : List GV) (gb cap k' : Nat), L.length ≤ 7 ∧ k' ≤ k + 1510 + L.length ∧ w.heap.size ≤ gb ∧ s = .slice (some ⟨gb, 0, none⟩) L.length cap ∧ i = .int .i64 L.length ∧ Hid (Nils L) ∧ Hid (RG w.heap.size L (.slice (some ⟨gb, 0, none⟩) L.length cap) wr) ∧ Hid (Cur B A n c g k' wr) ∧ Hid (w.grownBy wr (some g))) (fun _ i _ => 7 - (intOf i).toNat)
        case atStart => exact ⟨[], w2.heap.size, 0, _, by simp, by simp; omega, hgb2, rfl, rfl, Lib.hid (fun v hv => by cases hv), HR3, HC3, HG3⟩
        case round =>
          obtain ⟨L, gb, cap, k', hl7, hk2, hgb, rfl, rfl, hN, hR, hC, hG⟩ := hrel
          go_wp2_with fail
          refine (pick_any _ _ _ _ _ _ 2 _ hC.out (by omega) (by decide) (by decide)).mono ?_
          rintro e w3 ⟨u, hu, rfl, hc, hg⟩
          have HC4 := Lib.hid hc
          have HG4 := Lib.hid (grown_trans hG.out hg)
          have HR4 := Lib.hid (hR.out.draw hg hgl)
          clear hc hg hC hG hR
          by_cases hlt : (L.length : Int) < 6 + u
          · obtain ⟨d, hdd⟩ : ∃ d : UInt8, d = UInt8.ofNat (97 + L.length) := ⟨_, rfl⟩
            have hd : (d.toNat : Int) = 97 + (L.length : Int) := by rw [hdd, UInt8.toNat_ofNat']; omega
            have hback : (convert 22 9 (.slice (some ⟨w3.heap.size, 0, none⟩) 1 1)).run Try.prog (w3.alloc (.cells #[.int .u8 (97 + (L.length : Int))] 5)) = .ok (.string ⟨#[d]⟩) (w3.alloc (.cells #[.int .u8 (97 + (L.length : Int))] 5)) := by
              refine run_convert_bytes_back (P := Try.prog) _ 22 9 5 ⟨w3.heap.size, 0, none⟩ 1 [d] Try.underlying22 Try.underlying5 Try.underlying9 (fun j hj => ?_)
              obtain rfl : j = 0 := by simpa using hj
              rw [← hd]
              exact (box1 (Below.refl _ _)).2.at_ 0 _ rfl
            have HR5 := Lib.hid ((HR4.out.alloc (.cells #[.int .u8 (97 + (L.length : Int))] 5)).alloc (.cells #[.int .i64 ((L.length : Int) + 1), .string ⟨#[d]⟩, .int .i64 0, .slice none 0 0] 26))
            have HC5 := Lib.hid ((HC4.out.alloc (.cells #[.int .u8 (97 + (L.length : Int))] 5)).alloc (.cells #[.int .i64 ((L.length : Int) + 1), .string ⟨#[d]⟩, .int .i64 0, .slice none 0 0] 26))
            have HG5 := Lib.hid (grown_trans (grown_trans HG4.out (World.grownBy_alloc w3 (.cells #[.int .u8 (97 + (L.length : Int))] 5) (some g))) (World.grownBy_alloc (w3.alloc (.cells #[.int .u8 (97 + (L.length : Int))] 5)) (.cells #[.int .i64 ((L.length : Int) + 1), .string ⟨#[d]⟩, .int .i64 0, .slice none 0 0] 26) (some g)))
            obtain ⟨v, hv⟩ : ∃ v : GV, v = ⟨(L.length : Int) + 1, ⟨#[d]⟩, 0, none, 0, []⟩ := ⟨_, rfl⟩
            have hvl : v.l = [] := by rw [hv]
            have hvn : v.nm.size ≤ 11 := by rw [hv]; exact (show (1 : Nat) ≤ 11 by decide)
            have HX7 : Hid (∀ j u, (cellsG [v])[j]? = some u → ((w3.alloc (.cells #[.int .u8 (97 + (L.length : Int))] 5)).alloc (.cells #[.int .i64 ((L.length : Int) + 1), .string ⟨#[d]⟩, .int .i64 0, .slice none 0 0] 26)).cell? ((⟨(w3.alloc (.cells #[.int .u8 (97 + (L.length : Int))] 5)).heap.size, 0, none⟩ : Addr).add j) = some u) := by rw [hv]; exact Lib.hid (cells_oneG (w3.alloc (.cells #[.int .u8 (97 + (L.length : Int))] 5)) ⟨(L.length : Int) + 1, ⟨#[d]⟩, 0, none, 0, []⟩)
            rw [World.size_alloc] at HX7
            have HZ : Hid (∀ b, (Value.slice (some ⟨gb, 0, none⟩) L.length cap).ownBlock = some b → w.heap.size ≤ b) := Lib.hid fun b e => by have : gb = b := Option.some.inj e; omega
            have HSZ : Hid (w.heap.size ≤ ((w3.alloc (.cells #[.int .u8 (97 + (L.length : Int))] 5)).alloc (.cells #[.int .i64 ((L.length : Int) + 1), .string ⟨#[d]⟩, .int .i64 0, .slice none 0 0] 26)).heap.size) := Lib.hid HG5.out.size
            have HNM := Lib.hid (hN.out.more hvl hvn)
            have hll : (L ++ [v]).length = L.length + 1 := by simp
            clear hd hdd hv hvl
            go_wp2_with (at_builtin; go_loud (refine wpList_append_own _ rfl _ _ 35 rfl w.heap.size 26 i0 (.agg #[.int .i64 0, .string ⟨#[]⟩, .int .i64 0, .slice none 0 0]) 4 56 Try.underlying35 HI.out.1 HI.out.2.1 HI.out.2.2.1 HI.out.2.2.2 rfl (by decide) _ _ _ rfl HR5.out ⟨w3.heap.size + 1, 0, none⟩ 1 1 (cellsG [v]) rfl rfl HX7.out (cellsG_one [v]) (by unfold maxLen; omega) (by omega) HSZ.out ?_; intro v2 w5 hown' hgrow hne; have HN6 := Lib.hid (RG.more hown'); have HGR := Lib.hid hgrow; have HNE := Lib.hid hne; clear hown' hgrow hne))
            have hv2 : v2 ≠ .slice none 0 0 := fun e => by have := (HNE.out.1 e).2; omega
            obtain ⟨gb2, cap2, rfl, hgb2, _⟩ := HN6.out.slice hv2
            have HC6 := Lib.hid (HC5.out.past hgl HGR.out HZ.out)
            have HG6 := Lib.hid (grown_past HG5.out HGR.out HZ.out)
            go_roundw
            case rel => exact ⟨L ++ [v], gb2, cap2, _, by omega, by omega, hgb2, rfl, by rw [hll]; go_num, HNM, HN6, HC6, HG6⟩
            case measure => simp [intOf]; omega
          · go_wp2_with fail
            go_ret
            exact ⟨L, gb, cap, _, by omega, by omega, hgb, rfl, HR4.out, hN.out.ins _ _ _, HC4.out, HG4.out⟩
    · go_wp2_with fail
      refine (pick_any _ _ _ _ _ _ 3 _ hC.out (by omega) (by decide) (by decide)).mono ?_
      rintro e w2 ⟨u, hu, rfl, hc, hg⟩
      have HC2 := Lib.hid hc
      have HG2 := Lib.hid (grown_trans hG.out hg)
      have HR2 := Lib.hid (hR.out.draw hg hgl)
      have HI2 := Lib.hid (hN.out.draw hg hgl)
      clear hc hg hC hG hR hN
      have hs2 : w.heap.size ≤ w2.heap.size := HG2.out.size
      have HX := Lib.hid (HR2.out.alloc (.cells #[] 26)).cells
      have HP := Lib.hid (RG.new w2)
      have HZ : Hid (∀ b, (Value.slice (some ⟨w2.heap.size, 0, none⟩) 0 0).ownBlock = some b → w2.heap.size ≤ b) := Lib.hid fun b e => by have : w2.heap.size = b := Option.some.inj e; omega
      have HI2a := Lib.hid (HI2.out.kept (World.grownBy_alloc w2 (.cells #[] 26) none) (Nat.le_refl _) (fun b e => by cases e))
      go_wp2_with (at_builtin; go_loud (refine wpList_append_own _ rfl _ _ 35 rfl w2.heap.size 26 i0 (.agg #[.int .i64 0, .string ⟨#[]⟩, .int .i64 0, .slice none 0 0]) 4 56 Try.underlying35 HI.out.1 HI.out.2.1 HI.out.2.2.1 HI.out.2.2.2 rfl (by decide) _ _ _ rfl HP.out ⟨gb, 0, none⟩ L.length cap (cellsG L) rfl (cellsG_len L) HX.out (cellsG_one L) (by simp only [List.length_nil]; unfold maxLen; omega) (by simp only [List.length_nil]; omega) (by simp) ?_; intro v' w3 hown' hgrow hne; have HN3 := Lib.hid (RG.more hown'); have HGR := Lib.hid hgrow; have HNE := Lib.hid hne; clear hown' hgrow hne))
      have hn3 := HN3.out
      rw [List.nil_append] at hn3
      have HN3' := Lib.hid hn3
      clear hn3 HN3 HX HP HNE
      have HV3 : Hid (∀ b, v'.ownBlock = some b → w2.heap.size ≤ b ∧ b < w3.heap.size) := Lib.hid fun b e => World.ownsRow.lt HN3'.out b e
      have hw23 : w2.heap.size ≤ w3.heap.size := by have := HGR.out.size; simp at this; omega
      have HR3 := Lib.hid ((HR2.out).past (HR2.out.alloc (.cells #[] 26)) HGR.out HZ.out)
      have HC3 := Lib.hid ((HC2.out.alloc (.cells #[] 26)).past hgl HGR.out (fun b e => Nat.le_trans hs2 (HZ.out b e)))
      have HG3 := Lib.hid (grown_past (grown_trans HG2.out (World.grownBy_alloc w2 (.cells #[] 26) (some g))) HGR.out (fun b e => Nat.le_trans hs2 (HZ.out b e)))
      have HI3 := Lib.hid (HI2a.out.kept HGR.out (by simp) (fun b e => .inr (HZ.out b e)))
      clear HC2 HG2 HGR HZ HI2 HI2a
      refine (gauge_any _ _ _ _ _ _ _ _ HC3.out (by omega)).mono ?_
      rintro e w4 ⟨gi, gn, gz, gR, gm, gc, gl, k4, hgm, hg24, hgn, hk4, rfl, hrow, hc, hg⟩
      subst hgm
      have HC4 := Lib.hid hc
      have HG4 := Lib.hid (grown_trans HG3.out hg)
      have HR4 := Lib.hid (HR3.out.draw hg hgl)
      have HN4 := Lib.hid (HN3'.out.draw hg (by omega))
      have HI4 := Lib.hid (HI3.out.kept hg hw23 (fun b e => by have := Option.some.inj e; omega))
      have HO4 := Lib.hid (grow_own hrow rfl)
      have HS34 : Hid (w3.heap.size ≤ w4.heap.size) := Lib.hid hg.size
      clear hc hg hrow HC3 HG3 HR3 HN3' HI3
      have HNA := Lib.hid (HN4.out.alloc (.cells #[.int .i64 gi, .string gn, .int .i64 gz, .slice gR gl.length gc] 26))
      have HX7 := Lib.hid (cells_oneG w4 ⟨gi, gn, gz, gR, gc, gl⟩)
      have HS4 : Hid (w2.heap.size ≤ (w4.alloc (.cells #[.int .i64 gi, .string gn, .int .i64 gz, .slice gR gl.length gc] 26)).heap.size) := Lib.hid (by have := HS34.out; simp; omega)
      have HI5 := Lib.hid (HI4.out.kept (World.grownBy_alloc w4 (.cells #[.int .i64 gi, .string gn, .int .i64 gz, .slice gR gl.length gc] 26) none) (Nat.le_trans hw23 HS34.out) (fun b e => by cases e))
      have HO5 := Lib.hid (HO4.out.kept (World.grownBy_alloc w4 (.cells #[.int .i64 gi, .string gn, .int .i64 gz, .slice gR gl.length gc] 26) none) (Nat.le_refl _) (fun b e => by cases e))
      clear HI4 HO4
      go_wp2_with (at_builtin; go_loud (refine wpList_append_own _ rfl _ _ 35 rfl w2.heap.size 26 i0 (.agg #[.int .i64 0, .string ⟨#[]⟩, .int .i64 0, .slice none 0 0]) 4 56 Try.underlying35 HI.out.1 HI.out.2.1 HI.out.2.2.1 HI.out.2.2.2 rfl (by decide) _ _ _ rfl HNA.out ⟨w4.heap.size, 0, none⟩ 1 1 (cellsG [⟨gi, gn, gz, gR, gc, gl⟩]) rfl rfl HX7.out (cellsG_one [⟨gi, gn, gz, gR, gc, gl⟩]) (by unfold maxLen; omega) (by omega) HS4.out ?_; intro v2 w5 hown' hgrow hne; have HN5 := Lib.hid (RG.more hown'); have HGR := Lib.hid hgrow; have HNE := Lib.hid hne; clear hown' hgrow hne))
      have hv2 : v2 ≠ .slice none 0 0 := fun e => by have := (HNE.out.1 e).2; omega
      obtain ⟨gb2, cap2, rfl, hgb2, _⟩ := HN5.out.slice hv2
      have HR5 := Lib.hid ((HR2.out).past (HR4.out.alloc (.cells #[.int .i64 gi, .string gn, .int .i64 gz, .slice gR gl.length gc] 26)) HGR.out (fun b e => (HV3.out b e).1))
      have HC5 := Lib.hid ((HC4.out.alloc (.cells #[.int .i64 gi, .string gn, .int .i64 gz, .slice gR gl.length gc] 26)).past hgl HGR.out (fun b e => Nat.le_trans hs2 (HV3.out b e).1))
      have HG5 := Lib.hid (grown_past (grown_trans HG4.out (World.grownBy_alloc w4 (.cells #[.int .i64 gi, .string gn, .int .i64 gz, .slice gR gl.length gc] 26) (some g))) HGR.out (fun b e => Nat.le_trans hs2 (HV3.out b e).1))
      have hz45 : w4.heap.size + 1 ≤ w5.heap.size := by have := HGR.out.size; simpa using this
      have HI6 := Lib.hid ((HI5.out.kept HGR.out (Nat.le_trans (Nat.le_trans hw23 HS34.out) (by simp)) (fun b e => .inr (HV3.out b e).1)).wide (Nat.le_refl w.heap.size) (by have := HS34.out; omega : w2.heap.size ≤ w5.heap.size))
      have HO6 := Lib.hid ((HO5.out.kept HGR.out (by simp) (fun b e => .inl (HV3.out b e).2)).wide (by omega : w.heap.size ≤ w3.heap.size) (by omega : w4.heap.size ≤ w5.heap.size))
      have HIM := Lib.hid (HI6.out.more (v := ⟨gi, gn, gz, gR, gc, gl⟩) hg24 hgn HO6.out)
      have hll : (L ++ [(⟨gi, gn, gz, gR, gc, gl⟩ : GV)]).length = L.length + 1 := by simp
      clear HC4 HG4 HR4 HN4 HNA HX7 HGR HNE HV3 hv2 HI5 HO5 HO6
      refine (good_v _ _ _ ((L ++ [(⟨gi, gn, gz, gR, gc, gl⟩ : GV)]).map GV.g) _ rfl _ (gauges_of (HN5.out.low hs2) HIM.out) (by unfold maxLen; omega)).mono ?_
      rintro e w6 ⟨rfl, hb⟩
      have HR6 := Lib.hid (HR5.out.below hb)
      have HN6 := Lib.hid ((HN5.out.below hb).low hs2)
      have HC6 := Lib.hid (HC5.out.past hgl (grown_of_below hb none) (fun b e => by cases e))
      have HG6 := Lib.hid (grown_past HG5.out (grown_of_below hb none) (fun b e => by cases e))
      have HIL := Lib.hid ((HI6.out.kept (grown_of_below hb none) (Nat.le_refl _) (fun b e => by cases e)).wide (Nat.le_refl _) hb.size)
      have HIM6 := Lib.hid ((HIM.out.kept (grown_of_below hb none) (Nat.le_refl _) (fun b e => by cases e)).wide (Nat.le_refl _) hb.size)
      clear hb HR5 HN5 HC5 HG5 HI6 HIM
      have hgb3 : w.heap.size ≤ gb2 := Nat.le_trans hs2 hgb2
      rcases hgd : areB ((L ++ [(⟨gi, gn, gz, gR, gc, gl⟩ : GV)]).map GV.g) with _ | _
      · go_wp2_with fail
        refine (one_any _ _ _ _ _ _ 30 _ HC6.out (by omega) (by decide) (by decide)).mono ?_
        rintro e w7 ⟨b, rfl, hc, hg⟩
        have HC7 := Lib.hid hc
        have HG7 := Lib.hid (grown_trans HG6.out hg)
        have HR7 := Lib.hid (HR6.out.draw hg hgl)
        have HN7 := Lib.hid (HN6.out.draw hg hgl)
        have HIL7 := Lib.hid (HIL.out.draw hg hgl)
        have HIM7 := Lib.hid (HIM6.out.draw hg hgl)
        clear hc hg HC6 HG6 HR6 HN6 HIL HIM6
        rcases b with _ | _
        · go_wp2_with fail
          go_roundw
          case rel => exact ⟨L, gb, cap, _, r - 1, y + 1 + u, by omega, by omega, by omega, by omega, hgb, rfl, rfl, by go_num, HIL7, HR7, HC7, HG7⟩
          case measure => simp [intOf]; omega
        · go_wp2_with fail
          go_roundw
          case rel => exact ⟨L ++ [⟨gi, gn, gz, gR, gc, gl⟩], gb2, cap2, _, r - 1, y + 1 + u, by omega, by omega, by omega, by omega, hgb3, by first | rfl | rw [hll], rfl, by go_num, HIM7, HN7, HC7, HG7⟩
          case measure => simp [intOf]; omega
      · go_wp2_with fail
        go_roundw
        case rel => exact ⟨L ++ [⟨gi, gn, gz, gR, gc, gl⟩], gb2, cap2, _, r - 1, y + 1 + u, by omega, by omega, by omega, by omega, hgb3, by first | rfl | rw [hll], rfl, by go_num, HIM6, HN6, HC6, HG6⟩
        case measure => simp [intOf]; omega
/-! ### gaugeId, and the draws of the laws -/
set_option maxRecDepth 20000 in
set_option maxHeartbeats 3200000 in
theorem gaugeId_any (B : Nat) (A : Option Addr) (n c g k base gb cap : Nat) (L : List GV) (w : World) (h : Cur B A n c g k w) (hk : k < 900000) (hl : L.length ≤ 7) (hr : RG base L (.slice (some ⟨gb, 0, none⟩) L.length cap) w) (hb : g < base) :
    Calls Try.prog 155 #[.pointer (some ⟨g, 0, none⟩), .slice (some ⟨gb, 0, none⟩) L.length cap] w (IdPost B A n c g k w) := by
  have HC0 := Lib.hid h
  have HR0 := Lib.hid hr
  clear h hr
  rcases Nat.eq_zero_or_pos L.length with h0 | h0
  · rw [h0]
    go_enter Try.func155, Try.ntmps155
    go_wp2_with fail
    refine (among_at AnyI _ _ _ _ _ _ _ 3 [0, 1, 50] _ HC0.out rfl (by omega) (by decide) (by decide) (fun _ _ => trivial)).mono ?_
    rintro e w1 ⟨x, _, rfl, hc, hg⟩
    have HX := Lib.hid (And.intro hc hg)
    clear hc hg
    go_wp2_with fail
    go_ret
    exact ⟨x, _, by omega, by omega, rfl, HX.out.1, HX.out.2⟩
  have hm0 : ((L.length : Int) == 0) = false := beq_eq_false_iff_ne.2 (by omega)
  go_enter Try.func155, Try.ntmps155
  go_wp2_with fail
  refine (one_any _ _ _ _ _ _ 10 _ HC0.out (by omega) (by decide) (by decide)).mono ?_
  rintro e w1 ⟨q, rfl, hc, hg⟩
  have HC1 := Lib.hid hc
  have HG1 := Lib.hid hg
  have HR1 := Lib.hid (HR0.out.draw hg hb)
  clear hc hg HC0 HR0
  rcases q with _ | _
  · go_wp2_with fail
    refine (pick_ge1 _ _ _ _ _ _ L.length _ HC1.out (by omega) h0 (by omega)).mono ?_
    rintro e w2 ⟨v, k2, hv, hk1, hk2, rfl, hc, hg⟩
    have HC2 := Lib.hid hc
    have HG2 := Lib.hid (grown_trans HG1.out hg)
    have HR2 := Lib.hid (HR1.out.draw hg hb)
    clear hc hg HC1 HG1 HR1
    obtain ⟨u, hu⟩ : ∃ u, L[v]? = some u := ⟨_, List.getElem?_eq_getElem hv⟩
    have c0 : w2.cell? ⟨gb, v * 4, none⟩ = some (.int .i64 u.id) := by
      have := (World.ownsRow.cellAt HR2.out (v * 4 + 0) (by omega)).trans (cellsG_at L v 0 u hu (by decide))
      simpa [cG] using this
    clear hu
    go_wp2_with fail
    go_ret
    exact ⟨u.id, _, by omega, by omega, rfl, HC2.out, HG2.out⟩
  · go_wp2_with fail
    refine (among_at AnyI _ _ _ _ _ _ _ 3 [0, 1, 50] _ HC1.out rfl (by omega) (by decide) (by decide) (fun _ _ => trivial)).mono ?_
    rintro e w2 ⟨x, _, rfl, hc, hg⟩
    have HX := Lib.hid (And.intro hc (grown_trans HG1.out hg))
    clear hc hg
    go_wp2_with fail
    go_ret
    exact ⟨x, _, by omega, by omega, rfl, HX.out.1, HX.out.2⟩
def DrawnL (w : World) (L : List GV) (gb cap : Nat) (w' : World) : Prop :=
  L.length ≤ 7 ∧ Gauges w' w'.heap.size (some ⟨gb, 0, none⟩) L.length (L.map GV.g) ∧ L.length ≤ cap ∧ Below w.heap.size w w'
theorem drawnL_of {A : Option Addr} {n c k gb cap : Nat} {w W : World} {L : List GV} {o : Obj} (hl : L.length ≤ 7) (hR : RG (w.alloc o).heap.size L (.slice (some ⟨gb, 0, none⟩) L.length cap) W) (hI : Ins W (w.alloc o).heap.size W.heap.size L)
    (_hC : Cur w.heap.size A n c w.heap.size k W) (hg : (w.alloc o).grownBy W (some w.heap.size)) : DrawnL w L gb cap W :=
  ⟨hl, gauges_of hR hI, hR.cap, below_of ((Below.refl w.heap.size w).alloc (Nat.le_refl _) o) hg (by simp) (Nat.le_refl _)⟩
def DrawL0 (w : World) (e : Ending) (w' : World) : Prop := ∃ (L : List GV) (gb cap : Nat), e = .returned (.slice (some ⟨gb, 0, none⟩) L.length cap) ∧ DrawnL w L gb cap w'
def DrawL2 (w : World) (e : Ending) (w' : World) : Prop := ∃ (L : List GV) (gb cap : Nat) (x y : Int), e = .returned (.tuple #[.slice (some ⟨gb, 0, none⟩) L.length cap, .int .i64 x, .int .i64 y]) ∧ DrawnL w L gb cap w'
set_option maxRecDepth 20000 in
set_option maxHeartbeats 3200000 in
theorem draw_areG (A : Option Addr) (n c : Nat) (w : World) (h : CodeRow w.heap.size A n w) : Calls Try.prog 28 #[.slice A n c] w (DrawL0 w) := by
  have HC0 := Lib.hid (cur_new w A n c 118 h)
  clear h
  go_enter Try.func28, Try.ntmps28
  go_wp2_with fail
  refine (gauges_any _ _ _ _ _ _ _ HC0.out (by omega)).mono ?_
  rintro e w1 ⟨L, gb, cap, k1, hl, hk1, hgb, rfl, hR, hI, hC, hg⟩
  have HD := Lib.hid (drawnL_of hl hR hI hC hg)
  clear hR hC hg hI
  go_wp2_with fail
  go_ret
  exact ⟨L, gb, cap, rfl, HD.out⟩
set_option maxRecDepth 20000 in
set_option maxHeartbeats 3200000 in
theorem draw_common (A : Option Addr) (n c : Nat) (w : World) (h : CodeRow w.heap.size A n w) : Calls Try.prog 88 #[.slice A n c] w (DrawL2 w) := by
  have HC0 := Lib.hid (cur_new w A n c 118 h)
  clear h
  go_enter Try.func88, Try.ntmps88
  go_wp2_with fail
  refine (gauges_any _ _ _ _ _ _ _ HC0.out (by omega)).mono ?_
  rintro e w1 ⟨L, gb, cap, k1, hl, hk1, hgb, rfl, hR, hI, hC, hg⟩
  have HR1 := Lib.hid hR
  have HI1 := Lib.hid hI
  have HC1 := Lib.hid hC
  have HG1 := Lib.hid hg
  have hz : w.heap.size < (w.alloc (.cells #[.slice A n c, .int .i64 0, .int .u64 0] 118)).heap.size := by simp
  clear hR hC hg hI HC0
  go_wp2_with fail
  refine (gaugeId_any _ _ _ _ _ _ _ _ _ L _ HC1.out (by omega) hl HR1.out hz).mono ?_
  rintro e w2 ⟨x, k2, hk3, hk4, rfl, hc, hg⟩
  have HC2 := Lib.hid hc
  have HG2 := Lib.hid (grown_trans HG1.out hg)
  have HR2 := Lib.hid (HR1.out.draw hg hz)
  have HI2 := Lib.hid (HI1.out.draw hg hz)
  clear hc hg HC1 HG1 HR1 HI1
  go_wp2_with fail
  refine (gaugeId_any _ _ _ _ _ _ _ _ _ L _ HC2.out (by omega) hl HR2.out hz).mono ?_
  rintro e w3 ⟨y, k3, hk5, hk6, rfl, hc, hg⟩
  have HD := Lib.hid (drawnL_of hl (HR2.out.draw hg hz) (HI2.out.draw hg hz) hc (grown_trans HG2.out hg))
  clear hc hg HC2 HG2 HR2 HI2
  go_wp2_with fail
  go_ret3
  exact ⟨L, gb, cap, x, y, rfl, HD.out⟩
set_option maxRecDepth 20000 in
theorem draw_zero (A : Option Addr) (n c : Nat) (w : World) (h : CodeRow w.heap.size A n w) : Calls Try.prog 22 #[.slice A n c] w (DrawL2 w) := by
  have H := Lib.hid (draw_common A n c w h)
  clear h
  go_enter Try.func22, Try.ntmps22
  go_wp2_with fail
  refine H.out.mono ?_
  rintro e w1 ⟨L, gb, cap, x, y, rfl, hd⟩
  have HD := Lib.hid hd
  clear hd
  go_wp2_with fail
  go_ret3
  exact ⟨L, gb, cap, x, y, rfl, HD.out⟩
def DrawOPost (w : World) (e : Ending) (w' : World) : Prop := ∃ (gi : Int) (gn : ByteArray) (gz : Int) (gR : Option Addr) (gm gc : Nat) (l : List (Int × Int)), e = .returned (.agg #[.int .i64 gi, .string gn, .int .i64 gz, .slice gR gm gc]) ∧ DrawG w w' gn gR gm gc l
theorem setL4_below {w W : World} {B g : Nat} (h : Below B w W) (hg : B ≤ g) (vs : List Value) : Below B w (setL W g 0 vs) := setL_below vs h hg 0
set_option maxRecDepth 20000 in
set_option maxHeartbeats 3200000 in
theorem draw_isG (A : Option Addr) (n c : Nat) (w : World) (h : CodeRow w.heap.size A n w) : Calls Try.prog 83 #[.slice A n c] w (DrawOPost w) := by
  obtain ⟨W1, hW1⟩ : ∃ W, W = (w.alloc (.cells #[.int .i64 0, .string ⟨#[]⟩, .int .i64 0, .slice none 0 0] 26)).alloc (.cells #[.slice A n c, .int .i64 0, .int .u64 0] 118) := ⟨_, rfl⟩
  have HB1 : Hid (Below w.heap.size w W1) := by rw [hW1]; exact Lib.hid (((Below.refl _ _).alloc (Nat.le_refl _) _).alloc (by simp) _)
  have HS1 : Hid (W1.heap.size = w.heap.size + 2) := by rw [hW1]; exact Lib.hid (by simp)
  have HZ1 : Hid (Has W1 w.heap.size [.int .i64 0, .string ⟨#[]⟩, .int .i64 0, .slice none 0 0]) := by rw [hW1]; exact Lib.hid ((by simpa using Has.new w #[.int .i64 0, .string ⟨#[]⟩, .int .i64 0, .slice none 0 0] 26 : Has (w.alloc (.cells #[.int .i64 0, .string ⟨#[]⟩, .int .i64 0, .slice none 0 0] 26)) w.heap.size [.int .i64 0, .string ⟨#[]⟩, .int .i64 0, .slice none 0 0]).alloc _)
  have HC1 : Hid (Cur w.heap.size A n c (w.heap.size + 1) 0 W1) := by
    have h1 := cur_new (w.alloc (.cells #[.int .i64 0, .string ⟨#[]⟩, .int .i64 0, .slice none 0 0] 26)) A n c 118 (h.below ((Below.refl w.heap.size w).alloc (Nat.le_refl _) _) (by simp))
    rw [← hW1, World.size_alloc] at h1
    exact Lib.hid (cur_low' h1 (h.below HB1.out (Nat.le_refl _)) (by omega))
  have HE1 := Lib.hid hW1
  clear h hW1
  go_enter Try.func83, Try.ntmps83
  go_upto_region 2 with fail
  rw [← HE1.out]
  go_wp2_with fail
  refine (among_at AnyI _ _ _ _ _ _ _ 3 [1, 42, 99] _ HC1.out rfl (by omega) (by decide) (by decide) (fun _ _ => trivial)).mono ?_
  rintro e w2 ⟨x, _, rfl, hc, hg⟩
  have HC2 := Lib.hid hc
  have HB2 := Lib.hid (below_of HB1.out hg HB1.out.size (Nat.le_succ _))
  have HZ2 := Lib.hid (has_grown HZ1.out hg (fun e => by have := Option.some.inj e; omega))
  have HS2 : Hid (w.heap.size + 2 ≤ w2.heap.size) := Lib.hid (by have h1 := hg.size; have := HS1.out; omega)
  clear hc hg HC1 HB1 HZ1 HE1
  go_wp2_with fail
  refine (gauge_any _ _ _ _ _ _ _ _ HC2.out (by omega)).mono ?_
  rintro e w3 ⟨gi, gn, gz, gR, gm, gc, gl, k3, hgm, hg24, hgn, hk3, rfl, hrow, hc, hg⟩
  have HBT := Lib.hid (below_of HB2.out hg HB2.out.size (Nat.le_succ _))
  have HZT := Lib.hid (has_grown HZ2.out hg (fun e => by have := Option.some.inj e; omega))
  have HRT := Lib.hid hrow
  clear hc hg HC2 HB2 HZ2 hrow
  have z0 := HZT.out.at_ 0 _ rfl
  have z1 := HZT.out.at_ 1 _ rfl
  have z2 := HZT.out.at_ 2 _ rfl
  have z3 := HZT.out.at_ 3 _ rfl
  have f0 := HZT.out.free 0
  have f1 := HZT.out.free 1
  have f2 := HZT.out.free 2
  have f3 := HZT.out.free 3
  have HR := Lib.hid (layG HZT.out (.int .i64 gi) (.string gn) (.int .i64 gz) (.slice gR gm gc))
  have HBR := Lib.hid (setL_below [.int .i64 gi, .string gn, .int .i64 gz, .slice gR gm gc] HBT.out (Nat.le_refl w.heap.size) 0)
  have HGR : Hid (GRow w.heap.size gl (.slice gR gm gc) (setL w3 w.heap.size 0 [.int .i64 gi, .string gn, .int .i64 gz, .slice gR gm gc])) :=
    Lib.hid (own_base (own_any HRT.out (setL_grown [.int .i64 gi, .string gn, .int .i64 gz, .slice gR gm gc] w3 w.heap.size 0) (fun q e => by have := Option.some.inj e; have := HS2.out; omega)) (by have := HS2.out; omega))
  have r0 := HR.out.at_ 0 _ rfl
  have r1 := HR.out.at_ 1 _ rfl
  have r2 := HR.out.at_ 2 _ rfl
  have r3 := HR.out.at_ 3 _ rfl
  simp only [setL] at r0 r1 r2 r3
  go_wp2_with fail
  refine bodyPost_ret (v := .agg #[.int .i64 gi, .string gn, .int .i64 gz, .slice gR gm gc]) (by simp [results, Try.results83, go_sem, r0, r1, r2, r3]) rfl ⟨gi, gn, gz, gR, gm, gc, gl, rfl, hgm, hg24, hgn, HGR.out, HBR.out⟩
set_option maxRecDepth 20000 in
set_option maxHeartbeats 3200000 in
theorem draw_high (A : Option Addr) (n c : Nat) (w : World) (h : CodeRow w.heap.size A n w) : Calls Try.prog 16 #[.slice A n c] w (DrawOPost w) := by
  have hB : Below w.heap.size w (w.alloc (.cells #[.int .i64 0, .string ⟨#[]⟩, .int .i64 0, .slice none 0 0] 26)) := (Below.refl _ _).alloc (Nat.le_refl _) _
  have HB1 := Lib.hid hB
  have HZ1 : Hid (Has (w.alloc (.cells #[.int .i64 0, .string ⟨#[]⟩, .int .i64 0, .slice none 0 0] 26)) w.heap.size [.int .i64 0, .string ⟨#[]⟩, .int .i64 0, .slice none 0 0]) := Lib.hid (by simpa using Has.new w #[.int .i64 0, .string ⟨#[]⟩, .int .i64 0, .slice none 0 0] 26)
  have HD := Lib.hid (draw_isG A n c _ (h.below HB1.out (by simp : w.heap.size ≤ (w.alloc (.cells #[.int .i64 0, .string ⟨#[]⟩, .int .i64 0, .slice none 0 0] 26)).heap.size)))
  clear h hB
  go_enter Try.func16, Try.ntmps16
  go_wp2_with fail
  refine HD.out.mono ?_
  rintro e w3 ⟨gi, gn, gz, gR, gm, gc, gl, rfl, hgm, hg24, hgn, hrow, hb⟩
  have HBT := Lib.hid (bthen HB1.out hb HB1.out.size)
  have HZT := Lib.hid (HZ1.out.next hb)
  have HRT := Lib.hid hrow
  clear hb HB1 HZ1 HD hrow
  have z0 := HZT.out.at_ 0 _ rfl
  have z1 := HZT.out.at_ 1 _ rfl
  have z2 := HZT.out.at_ 2 _ rfl
  have z3 := HZT.out.at_ 3 _ rfl
  have f0 := HZT.out.free 0
  have f1 := HZT.out.free 1
  have f2 := HZT.out.free 2
  have f3 := HZT.out.free 3
  have HR := Lib.hid (layG HZT.out (.int .i64 gi) (.string gn) (.int .i64 gz) (.slice gR gm gc))
  have HBR := Lib.hid (setL_below [.int .i64 gi, .string gn, .int .i64 gz, .slice gR gm gc] HBT.out (Nat.le_refl w.heap.size) 0)
  have HGR : Hid (GRow w.heap.size gl (.slice gR gm gc) (setL w3 w.heap.size 0 [.int .i64 gi, .string gn, .int .i64 gz, .slice gR gm gc])) :=
    Lib.hid (own_base (own_any HRT.out (setL_grown [.int .i64 gi, .string gn, .int .i64 gz, .slice gR gm gc] w3 w.heap.size 0) (fun q e => by have := Option.some.inj e; simp; omega)) (by simp))
  have r0 := HR.out.at_ 0 _ rfl
  have r1 := HR.out.at_ 1 _ rfl
  have r2 := HR.out.at_ 2 _ rfl
  have r3 := HR.out.at_ 3 _ rfl
  simp only [setL] at r0 r1 r2 r3
  go_wp2_with fail
  refine bodyPost_ret (v := .agg #[.int .i64 gi, .string gn, .int .i64 gz, .slice gR gm gc]) (by simp [results, Try.results16, go_sem, r0, r1, r2, r3]) rfl ⟨gi, gn, gz, gR, gm, gc, gl, rfl, hgm, hg24, hgn, HGR.out, HBR.out⟩
end Go.Proofs.Ytdmnkmdlochogaa
