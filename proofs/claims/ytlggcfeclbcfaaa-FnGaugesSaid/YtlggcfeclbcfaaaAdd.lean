/-
  The contract of impl.AddReading over this translation. Conditions: stated at the theorem.
-/
import Derived.Test.YtlggcfeclbcfaaaCat
import Derived.Test.YtlggcfeclbcfaaaShift
import Derived.Test.YtlggcfeclbcfaaaPerm
import Derived.Test.YtlggcfeclbcfaaaOg
namespace Go.Proofs.Ytlggcfeclbcfaaa
open Go.RowKit

def adE (l : List (Int × Int)) (t : Int) (i : Nat) : Nat := if hitB l t i then i + 1 else i
def adL (l : List (Int × Int)) (t y : Int) (i : Nat) : List (Int × Int) := l.take i ++ [(t, y)] ++ l.drop (adE l t i)
theorem adE_le {l : List (Int × Int)} {t : Int} {i : Nat} (hi : i ≤ l.length) : i ≤ adE l t i ∧ adE l t i ≤ l.length := by
  unfold adE
  split
  · rename_i h
    unfold hitB at h
    simp only [decide_eq_true_eq] at h
    omega
  · omega
def adR (l : List (Int × Int)) (t y : Int) : List (Int × Int) := adL l t y (lbK l t)
def adK (id ze : Int) (nm : ByteArray) (l : List (Int × Int)) (t y : Int) : Bool := gaugeB id nm ze l && gaugeB id nm ze (adR l t y)
def adId (id ze : Int) (nm : ByteArray) (l : List (Int × Int)) (t y : Int) : Int := if adK id ze nm l t y then id else 0
def adNm (id ze : Int) (nm : ByteArray) (l : List (Int × Int)) (t y : Int) : ByteArray := if adK id ze nm l t y then nm else ⟨#[]⟩
def adZe (id ze : Int) (nm : ByteArray) (l : List (Int × Int)) (t y : Int) : Int := if adK id ze nm l t y then ze else 0
def adLs (id ze : Int) (nm : ByteArray) (l : List (Int × Int)) (t y : Int) : List (Int × Int) := if adK id ze nm l t y then adR l t y else []
def AdPost (id ze : Int) (nm : ByteArray) (l : List (Int × Int)) (t y : Int) (w : World) : Ending → World → Prop :=
  GaugePost (adId id ze nm l t y) (adNm id ze nm l t y) (adZe id ze nm l t y) (adLs id ze nm l t y) (adK id ze nm l t y) w
theorem ad_no {id ze : Int} {nm : ByteArray} {l : List (Int × Int)} {t y : Int} {w w' : World} (h : adK id ze nm l t y = false) (hb : Below w.heap.size w w') : AdPost id ze nm l t y w (.returned (.tuple #[.agg #[.int .i64 0, .string ⟨#[]⟩, .int .i64 0, .slice none 0 0], .bool false])) w' := by
  unfold AdPost adId adNm adZe adLs
  rw [h]
  exact ⟨none, 0, rfl, Own2.nil _ _ _ _, hb, Nat.le_refl _⟩
theorem ad_yes {id ze : Int} {nm : ByteArray} {l : List (Int × Int)} {t y : Int} {w w' : World} {A : Option Addr} {n c : Nat} (h : adK id ze nm l t y = true) (ho : Own2 w' w.heap.size w'.heap.size A n (adR l t y)) (hc : n ≤ c) (hb : Below w.heap.size w w') : AdPost id ze nm l t y w (.returned (.tuple #[.agg #[.int .i64 id, .string nm, .int .i64 ze, .slice A n c], .bool true])) w' := by
  unfold AdPost adId adNm adZe adLs
  rw [h]
  obtain rfl := ho.1
  exact ⟨A, c, rfl, ho, hb, hc⟩
theorem part_of_spots {w : World} {B n : Nat} {b o : Nat} {l : List (Int × Int)} (h : Spots w B (some ⟨b, o, none⟩) n l) : Part w ⟨b, o, none⟩ l := fun j u hu => by
  have hj := (List.getElem?_eq_some_iff.1 hu).1
  rw [cells2_len] at hj
  obtain ⟨b', o', x, y, hA, _, hl, h0, h1⟩ := h.2 (j / 2) (by rw [← h.1]; omega)
  obtain ⟨rfl, rfl⟩ : b = b' ∧ o = o' := by injection hA with h; injection h with h h'; exact ⟨h, h'⟩
  obtain ⟨e0, e1⟩ := cells2_at l (j / 2) x y hl
  rw [add_none]
  rcases Nat.mod_two_eq_zero_or_one j with q | q
  · have e : j / 2 * 2 = j := by omega
    rw [e] at h0 e0
    rw [h0]; exact e0.symm.trans hu
  · have e : j / 2 * 2 + 1 = j := by omega
    rw [Nat.add_assoc, e] at h1
    rw [e] at e1
    rw [h1]; exact e1.symm.trans hu
theorem part_take {w : World} {a : Addr} {l : List (Int × Int)} (h : Part w a l) (k : Nat) : Part w a (l.take k) := fun j u hu => by
  refine h j u ?_
  rw [← List.take_append_drop k l, cells2_cat, List.getElem?_append_left (List.getElem?_eq_some_iff.1 hu).1]
  exact hu
theorem part_drop {w : World} {b o : Nat} {l : List (Int × Int)} (h : Part w ⟨b, o, none⟩ l) {k : Nat} (hk : k ≤ l.length) : Part w ⟨b, o + k * 2, none⟩ (l.drop k) := fun j u hu => by
  have e := h (k * 2 + j) u (by
    conv => lhs; rw [← List.take_append_drop k l, cells2_cat]
    have e1 : (cells2 (l.take k)).length = k * 2 := by rw [cells2_len, List.length_take, Nat.min_eq_left hk]
    rw [List.getElem?_append_right (by omega), e1, Nat.add_sub_cancel_left]
    exact hu)
  rw [add_none]
  rw [Nat.add_assoc]
  rw [add_none] at e
  exact e
theorem cat_here (b o c k k2 c' : Nat) (l : List (Int × Int)) (t y : Int) (W : World) (hs : Spots W W.heap.size (some ⟨b, o, none⟩) l.length l) (hk : k ≤ k2) (hk2 : k2 ≤ l.length) (h15 : l.length ≤ 15) (hcap : l.length ≤ c) :
    Calls Try.prog 40 #[.slice (some ⟨W.heap.size + 1, 0, none⟩) 3 3] ((W.alloc (.cells #[.int .i64 t, .int .i64 y] 28)).alloc (.cells #[.slice (some ⟨b, o, none⟩) k c, .slice (some ⟨W.heap.size, 0, none⟩) 1 1, .slice (if c = k2 then some ⟨b, o, none⟩ else some ⟨b, o + k2 * 2, none⟩) (l.length - k2) c'] 24))
      (CatPost (l.take k ++ [(t, y)] ++ l.drop k2) ((W.alloc (.cells #[.int .i64 t, .int .i64 y] 28)).alloc (.cells #[.slice (some ⟨b, o, none⟩) k c, .slice (some ⟨W.heap.size, 0, none⟩) 1 1, .slice (if c = k2 then some ⟨b, o, none⟩ else some ⟨b, o + k2 * 2, none⟩) (l.length - k2) c'] 24))) := by
  have e1 : (l.take k).length = k := by rw [List.length_take]; omega
  have e3 : (l.drop k2).length = l.length - k2 := List.length_drop
  obtain ⟨a3, ha3, hp3⟩ : ∃ a3 : Addr, (if c = k2 then some ⟨b, o, none⟩ else some ⟨b, o + k2 * 2, none⟩ : Option Addr) = some a3 ∧ Part W a3 (l.drop k2) := by
    by_cases q : c = k2
    · refine ⟨⟨b, o, none⟩, if_pos q, fun j u hu => ?_⟩
      have hj := (List.getElem?_eq_some_iff.1 hu).1
      rw [cells2_len, e3] at hj
      omega
    · exact ⟨_, if_neg q, part_drop (part_of_spots hs) hk2⟩
  rw [ha3]
  have hb1 : Below W.heap.size W (W.alloc (.cells #[.int .i64 t, .int .i64 y] 28)) := (box1 (Below.refl _ _)).1
  have hh1 : Has (W.alloc (.cells #[.int .i64 t, .int .i64 y] 28)) W.heap.size [.int .i64 t, .int .i64 y] := (box1 (Below.refl _ _)).2
  have hsz : (W.alloc (.cells #[.int .i64 t, .int .i64 y] 28)).heap.size = W.heap.size + 1 := World.size_alloc _ _
  obtain ⟨W1, hW1⟩ : ∃ W1, W1 = W.alloc (.cells #[.int .i64 t, .int .i64 y] 28) := ⟨_, rfl⟩
  rw [← hW1] at hb1 hh1 hsz
  rw [← hW1]
  have hb2 : Below W1.heap.size W1 (W1.alloc (.cells #[.slice (some ⟨b, o, none⟩) k c, .slice (some ⟨W.heap.size, 0, none⟩) 1 1, .slice (some a3) (l.length - k2) c'] 24)) := (box1 (Below.refl _ _)).1
  have hh2 : Has (W1.alloc (.cells #[.slice (some ⟨b, o, none⟩) k c, .slice (some ⟨W.heap.size, 0, none⟩) 1 1, .slice (some a3) (l.length - k2) c'] 24)) W1.heap.size [.slice (some ⟨b, o, none⟩) k c, .slice (some ⟨W.heap.size, 0, none⟩) 1 1, .slice (some a3) (l.length - k2) c'] := (box1 (Below.refl _ _)).2
  rw [hsz] at hh2
  refine concat_any (W.heap.size + 1) ⟨b, o, none⟩ ⟨W.heap.size, 0, none⟩ a3 (l.take k) [(t, y)] (l.drop k2) c 1 c' 3 _ (by rw [e1]; exact hh2.at_ 0 _ rfl) (hh2.at_ 1 _ rfl) (by rw [e3]; exact hh2.at_ 2 _ rfl) (((part_take (part_of_spots hs) k).next hb1).next hb2) ?_ ((hp3.next hb1).next hb2) (by rw [e1, e3]; simp; omega) (by simp; omega)
  refine Part.next (fun j u hu => ?_) hb2
  rcases j with _ | _ | j
  · exact hh1.at_ 0 u hu
  · exact hh1.at_ 1 u hu
  · simp [cells2] at hu
set_option maxRecDepth 20000 in
set_option maxHeartbeats 3200000 in
theorem add_impl (id ze : Int) (nm : ByteArray) (b o c : Nat) (l : List (Int × Int)) (t y : Int) (w : World) (hs : Spots w w.heap.size (some ⟨b, o, none⟩) l.length l) (hm : l.length ≤ maxLen) (hn : nm.size ≤ maxLen) (hcap : l.length ≤ c) :
    Calls Try.prog 7 #[.agg #[.int .i64 id, .string nm, .int .i64 ze, .slice (some ⟨b, o, none⟩) l.length c], .agg #[.int .i64 t, .int .i64 y]] w (AdPost id ze nm l t y w) := by
  obtain ⟨U, hU⟩ : ∃ U, U = w.alloc (.cells #[.int .i64 id, .string nm, .int .i64 ze, .slice (some ⟨b, o, none⟩) l.length c] 26) := ⟨_, rfl⟩
  obtain ⟨X, hX⟩ : ∃ X, X = U.alloc (.cells #[.int .i64 t, .int .i64 y] 28) := ⟨_, rfl⟩
  obtain ⟨V, hV⟩ : ∃ V, V = X.alloc (.cells #[.int .i64 0, .string ⟨#[]⟩, .int .i64 0, .slice none 0 0] 26) := ⟨_, rfl⟩
  have HU : Hid (Below w.heap.size w U ∧ Has U w.heap.size [.int .i64 id, .string nm, .int .i64 ze, .slice (some ⟨b, o, none⟩) l.length c] ∧ U.heap.size = w.heap.size + 1) := by rw [hU]; exact ⟨(box1 (Below.refl _ _)).1, (box1 (Below.refl _ _)).2, World.size_alloc _ _⟩
  have HX : Hid (Below U.heap.size U X ∧ Has X U.heap.size [.int .i64 t, .int .i64 y] ∧ X.heap.size = U.heap.size + 1) := by rw [hX]; exact ⟨(box1 (Below.refl _ _)).1, (box1 (Below.refl _ _)).2, World.size_alloc _ _⟩
  have HV : Hid (Below X.heap.size X V ∧ Has V X.heap.size [.int .i64 0, .string ⟨#[]⟩, .int .i64 0, .slice none 0 0]) := by rw [hV]; exact ⟨(box1 (Below.refl _ _)).1, (box1 (Below.refl _ _)).2⟩
  have HVU : Hid (V = ((w.alloc (.cells #[.int .i64 id, .string nm, .int .i64 ze, .slice (some ⟨b, o, none⟩) l.length c] 26)).alloc (.cells #[.int .i64 t, .int .i64 y] 28)).alloc (.cells #[.int .i64 0, .string ⟨#[]⟩, .int .i64 0, .slice none 0 0] 26)) := by rw [hV, hX, hU]; rfl
  have HWX := Lib.hid (bthen HU.out.1 HX.out.1 HU.out.1.size)
  have HBV := Lib.hid (bthen HWX.out HV.out.1 HWX.out.size)
  have HSV := Lib.hid (spots_more hs HBV.out)
  have HGV := Lib.hid ((HU.out.2.1.next HX.out.1).next HV.out.1)
  have HRV : Hid (Has V (w.heap.size + 1) [.int .i64 t, .int .i64 y]) := by have h := HX.out.2.1.next HV.out.1; rw [HU.out.2.2] at h; exact Lib.hid h
  have HZV : Hid (Has V (w.heap.size + 2) [.int .i64 0, .string ⟨#[]⟩, .int .i64 0, .slice none 0 0]) := by have h := HV.out.2; rw [HX.out.2.2, HU.out.2.2] at h; exact Lib.hid h
  clear hs hV hX hU HU HX HV
  rcases hg : gaugeB id nm ze l with _ | _
  · have HG := Lib.hid hg
    have HR : Hid (adK id ze nm l t y = false) := by unfold Hid adK; rw [hg]; rfl
    clear hg
    go_enter Try.func7, Try.ntmps7
    go_wp2_with fail
    rw [← HVU.out]
    refine (isGauge_v _ _ _ _ _ _ l _ HG.out _ HSV.out hm hn).mono ?_
    rintro e w1 ⟨rfl, hb⟩
    have HN := Lib.hid (And.intro (bthen HBV.out hb HBV.out.size) (HZV.out.next hb))
    clear hb
    have z0 := HN.out.2.at_ 0 _ rfl
    have z1 := HN.out.2.at_ 1 _ rfl
    have z2 := HN.out.2.at_ 2 _ rfl
    have z3 := HN.out.2.at_ 3 _ rfl
    have zf0 := HN.out.2.free 0
    have zf1 := HN.out.2.free 1
    have zf2 := HN.out.2.free 2
    have zf3 := HN.out.2.free 3
    go_wp2_with fail
    refine bodyPost_ret (v := .tuple #[.agg #[.int .i64 0, .string ⟨#[]⟩, .int .i64 0, .slice none 0 0], .bool false]) (by simp [results, Try.results7, go_sem, z0, z1, z2, z3]) rfl (ad_no HR.out ?_)
    repeat (first | exact HN.out.1 | refine Below.setCell ?_ (by simp; try omega) _)
  have HG := Lib.hid hg
  have HGG := Lib.hid (good_of_gauge hg)
  have h15 := (good_of_gauge hg).2.2.2.1
  clear hg
  go_enter Try.func7, Try.ntmps7
  go_wp2_with fail
  rw [← HVU.out]
  refine (isGauge_v _ _ _ _ _ _ l _ HG.out _ HSV.out hm hn).mono ?_
  rintro e w1 ⟨rfl, hb⟩
  have HB1 := Lib.hid (bthen HBV.out hb HBV.out.size)
  have HG1 := Lib.hid (HGV.out.next hb)
  have HR1 := Lib.hid (HRV.out.next hb)
  have HZ1 := Lib.hid (HZV.out.next hb)
  have HS1 := Lib.hid (spots_more HSV.out hb)
  clear hb
  have g3 := HG1.out.at_ 3 _ rfl
  have r0 := HR1.out.at_ 0 _ rfl
  have HA := Lib.hid (asc_of_good HGG.out.2.2.2.2)
  go_wp2_with fail
  refine (placeOf_any _ _ _ l _ _ HS1.out (by omega) HA.out).mono ?_
  rintro e w2 ⟨i, hi, rfl, hb⟩
  have HLB := Lib.hid hi
  have hil := hi.1
  have HB2 := Lib.hid (bthen HB1.out hb HB1.out.size)
  have HG2 := Lib.hid (HG1.out.next hb)
  have HR2 := Lib.hid (HR1.out.next hb)
  have HZ2 := Lib.hid (HZ1.out.next hb)
  have HS2 := Lib.hid (spots_more HS1.out hb)
  clear hb hi g3 r0
  have g3 := HG2.out.at_ 3 _ rfl
  have r0 := HR2.out.at_ 0 _ rfl
  have r1 := HR2.out.at_ 1 _ rfl
  have q0 : (0 : Int) ≤ (i : Int) := by omega
  have q1 : (i : Int) ≤ (c : Int) := by omega
  have q2 : (i : Int) ≤ (l.length : Int) := by omega
  have q3 : (l.length : Int) ≤ (c : Int) := by omega
  rcases hh : hitB l t i with _ | _
  · have HADL : Hid (adR l t y = l.take i ++ [(t, y)] ++ l.drop i) := by unfold Hid adR adL adE; rw [lb_is HLB.out, hh]; rfl
    clear hh
    go_wp2_with fail
    have lc0 := lcell g3
    have lc1 := lcell r0
    have lc2 := lcell r1
    refine region_perm (W := w2) 12 [0, 1, 2, 3, 4, 6, 7, 8, 9] [5, 10, 11] (by kernel_rfl) (by kernel_rfl) (Below.refl _ _) (fun d _ _ _ _ h => by cases d <;> exact h) ?_
    simp only [picks, List.getElem?_cons_succ, List.getElem?_cons_zero, List.drop_succ_cons, List.drop_zero]
    repeat (go_big_quiet_step (fail))
    refine wpQuiet_nil ?_
    intro W3 hW1
    have HL : Hid (Below w2.heap.size w2 W3) := by obtain ⟨x, rfl⟩ := hW1; exact Lib.hid x.below
    clear hW1 lc0 lc1 lc2 g3 r0 r1
    have HC := Lib.hid (cat_here b o c i i (c - i) l t y W3 (spots_more HS2.out HL.out) (by omega) (by omega) h15 hcap)
    have HB3 : Hid (Below w2.heap.size w2 ((W3.alloc (.cells #[.int .i64 t, .int .i64 y] 28)).alloc (.cells #[.slice (some ⟨b, o, none⟩) i c, .slice (some ⟨W3.heap.size, 0, none⟩) 1 1, .slice (if c = i then some ⟨b, o, none⟩ else some ⟨b, o + i * 2, none⟩) (l.length - i) (c - i)] 24))) := Lib.hid ((HL.out.alloc HL.out.size _).alloc (by rw [World.size_alloc]; exact Nat.le_succ_of_le HL.out.size) _)
    simp only [wpMem]
    refine wpOp_step rfl (fun K hK => ?_)
    rw [if_pos (by rfl)]
    go_simp
    refine hK _ _ ⟨⟨⟨_, HL.out.alloc HL.out.size _⟩, rfl⟩, ?_⟩
    clear hK K
    refine wpOp_step rfl (fun K hK => ?_)
    rw [if_pos (by rfl)]
    go_simp
    refine hK _ _ ⟨⟨⟨_, HB3.out⟩, rfl⟩, ?_⟩
    clear hK K
    refine wpOp_step rfl (fun K hK => ?_)
    rw [if_pos (by rfl)]
    go_simp
    refine HC.out.mono ?_
    rintro e w5 ⟨v, rfl, hown, hb⟩
    refine hK _ _ ⟨⟨⟨_, bthen HB3.out hb HB3.out.size⟩, rfl⟩, ?_⟩
    clear hK K
    obtain ⟨O3, hO3⟩ : ∃ O : Option Addr, O = (if c = i then some ⟨b, o, none⟩ else some ⟨b, o + i * 2, none⟩) := ⟨_, rfl⟩
    rw [← hO3]
    clear hO3
    rw [← HADL.out] at hown
    obtain ⟨A5, c5, rfl⟩ := own_slice hown
    have HO5 := Lib.hid ((own2_of_row hown rfl).wide (lo' := w2.heap.size) HB3.out.size (Nat.le_refl _))
    have HCP := Lib.hid (own_cap hown)
    have HB5 := Lib.hid (bthen HB3.out hb HB3.out.size)
    clear hown hb HC
    have HG5 := Lib.hid (HG2.out.next HB5.out)
    have HZ5 := Lib.hid (HZ2.out.next HB5.out)
    have HBW := Lib.hid (bthen HB2.out HB5.out HB2.out.size)
    have hzz := HZ2.out.1
    obtain ⟨Y, hY⟩ : ∃ Y, Y = w5.setCell ⟨w.heap.size, 3, none⟩ (.slice A5 (adR l t y).length c5) := ⟨_, rfl⟩
    have HY : Hid (Has Y w.heap.size [.int .i64 id, .string nm, .int .i64 ze, .slice A5 (adR l t y).length c5] ∧ Has Y (w.heap.size + 2) [.int .i64 0, .string ⟨#[]⟩, .int .i64 0, .slice none 0 0] ∧ Own2 Y w2.heap.size Y.heap.size A5 (adR l t y).length (adR l t y) ∧ Below w.heap.size w Y) := by
      have e1 := HG5.out.set 3 (.slice A5 (adR l t y).length c5)
      have e2 := HZ5.out.far (p := ⟨w.heap.size, 3, none⟩) (by simp) (.slice A5 (adR l t y).length c5)
      have e3 := HO5.out.put ⟨w.heap.size, 3, none⟩ (.slice A5 (adR l t y).length c5) (.inl (by simp only; omega))
      have e4 := HBW.out.setCell (p := ⟨w.heap.size, 3, none⟩) (Nat.le_refl _) (.slice A5 (adR l t y).length c5)
      rw [hY]
      exact ⟨e1, e2, e3.wide (Nat.le_refl _) (by simp [World.setCell]), e4⟩
    have HLN : Hid ((adR l t y).length ≤ maxLen) := by
      unfold Hid maxLen
      rw [HADL.out]
      simp only [List.length_append, List.length_take, List.length_drop, List.length_singleton]
      omega
    have p0 := HG5.out.at_ 0 _ rfl
    have p1 := HG5.out.at_ 1 _ rfl
    have p2 := HG5.out.at_ 2 _ rfl
    have p3 := HG5.out.at_ 3 _ rfl
    have pf0 := HG5.out.free 0
    have pf1 := HG5.out.free 1
    have pf2 := HG5.out.free 2
    have pf3 := HG5.out.free 3
    go_wp2_with fail
    rw [← hY]
    clear p0 p1 p2 p3 pf0 pf1 pf2 pf3
    have HYE := Lib.hid hY
    clear hY
    have HSY := Lib.hid (HY.out.2.2.1.spots (Nat.le_refl _))
    rcases hk2 : gaugeB id nm ze (adR l t y) with _ | _
    · have HG2' := Lib.hid hk2
      have HR2' : Hid (adK id ze nm l t y = false) := by unfold Hid adK; rw [hk2, Bool.and_false]
      clear hk2
      have p0 := HY.out.1.at_ 0 _ rfl
      have p1 := HY.out.1.at_ 1 _ rfl
      have p2 := HY.out.1.at_ 2 _ rfl
      have p3 := HY.out.1.at_ 3 _ rfl
      go_wp2_with fail
      refine (isGauge_v _ _ _ _ _ _ (adR l t y) _ HG2'.out _ HSY.out HLN.out hn).mono ?_
      rintro e w6 ⟨rfl, hb⟩
      have HN := Lib.hid (And.intro (bthen HY.out.2.2.2 hb HY.out.2.2.2.size) (HY.out.2.1.next hb))
      clear hb p0 p1 p2 p3
      have z0 := HN.out.2.at_ 0 _ rfl
      have z1 := HN.out.2.at_ 1 _ rfl
      have z2 := HN.out.2.at_ 2 _ rfl
      have z3 := HN.out.2.at_ 3 _ rfl
      have zf0 := HN.out.2.free 0
      have zf1 := HN.out.2.free 1
      have zf2 := HN.out.2.free 2
      have zf3 := HN.out.2.free 3
      go_wp2_with fail
      refine bodyPost_ret (v := .tuple #[.agg #[.int .i64 0, .string ⟨#[]⟩, .int .i64 0, .slice none 0 0], .bool false]) (by simp [results, Try.results7, go_sem, z0, z1, z2, z3]) rfl (ad_no HR2'.out ?_)
      repeat (first | exact HN.out.1 | refine Below.setCell ?_ (by simp; try omega) _)
    · have HG2' := Lib.hid hk2
      have HR2' : Hid (adK id ze nm l t y = true) := by unfold Hid adK; rw [HG.out, hk2]; rfl
      clear hk2
      have p0 := HY.out.1.at_ 0 _ rfl
      have p1 := HY.out.1.at_ 1 _ rfl
      have p2 := HY.out.1.at_ 2 _ rfl
      have p3 := HY.out.1.at_ 3 _ rfl
      go_wp2_with fail
      refine (isGauge_v _ _ _ _ _ _ (adR l t y) _ HG2'.out _ HSY.out HLN.out hn).mono ?_
      rintro e w6 ⟨rfl, hb⟩
      have HN := Lib.hid (And.intro (bthen HY.out.2.2.2 hb HY.out.2.2.2.size) (And.intro (HY.out.2.1.next hb) (And.intro (HY.out.1.next hb) (And.intro (HY.out.2.2.1.on hb (Nat.le_refl _)) hb.size))))
      clear hb p0 p1 p2 p3
      have z0 := HN.out.2.1.at_ 0 _ rfl
      have z1 := HN.out.2.1.at_ 1 _ rfl
      have z2 := HN.out.2.1.at_ 2 _ rfl
      have z3 := HN.out.2.1.at_ 3 _ rfl
      have zf0 := HN.out.2.1.free 0
      have zf1 := HN.out.2.1.free 1
      have zf2 := HN.out.2.1.free 2
      have zf3 := HN.out.2.1.free 3
      have p0 := HN.out.2.2.1.at_ 0 _ rfl
      have p1 := HN.out.2.2.1.at_ 1 _ rfl
      have p2 := HN.out.2.2.1.at_ 2 _ rfl
      have p3 := HN.out.2.2.1.at_ 3 _ rfl
      go_wp2_with fail
      refine bodyPost_ret (v := .tuple #[.agg #[.int .i64 id, .string nm, .int .i64 ze, .slice A5 (adR l t y).length c5], .bool true]) (by simp [results, Try.results7, go_sem, z0, z1, z2, z3]) rfl (ad_yes HR2'.out ?_ HCP.out ?_)
      · refine ((((HN.out.2.2.2.1.put _ _ ?_).put _ _ ?_).put _ _ ?_).put _ _ ?_).wide ?_ ?_
        all_goals (try simp [World.setCell])
        all_goals (have := HN.out.2.2.2.2; try omega)
      · repeat (first | exact HN.out.1 | refine Below.setCell ?_ (by simp; try omega) _)
  · have HADL : Hid (adR l t y = l.take i ++ [(t, y)] ++ l.drop (i + 1)) := by unfold Hid adR adL adE; rw [lb_is HLB.out, hh]; rfl
    have q4 : i + 1 ≤ l.length := by have := adE_le (t := t) hil; unfold adE at this; rw [hh] at this; exact this.2
    have q5 : (i : Int) + 1 ≤ (c : Int) := by omega
    have q6 : (i : Int) + 1 ≤ (l.length : Int) := by omega
    have q7 : (0 : Int) ≤ (i : Int) + 1 := by omega
    clear hh
    go_wp2_with fail
    have lc0 := lcell g3
    have lc1 := lcell r0
    have lc2 := lcell r1
    refine region_perm (W := w2) 12 [0, 1, 2, 3, 4, 6, 7, 8, 9] [5, 10, 11] (by kernel_rfl) (by kernel_rfl) (Below.refl _ _) (fun d _ _ _ _ h => by cases d <;> exact h) ?_
    simp only [picks, List.getElem?_cons_succ, List.getElem?_cons_zero, List.drop_succ_cons, List.drop_zero]
    repeat (go_big_quiet_step (fail))
    refine wpQuiet_nil ?_
    intro W3 hW1
    have HL : Hid (Below w2.heap.size w2 W3) := by obtain ⟨x, rfl⟩ := hW1; exact Lib.hid x.below
    clear hW1 lc0 lc1 lc2 g3 r0 r1
    have HC := Lib.hid (cat_here b o c i (i + 1) (c - (i + 1)) l t y W3 (spots_more HS2.out HL.out) (by omega) (by omega) h15 hcap)
    have HB3 : Hid (Below w2.heap.size w2 ((W3.alloc (.cells #[.int .i64 t, .int .i64 y] 28)).alloc (.cells #[.slice (some ⟨b, o, none⟩) i c, .slice (some ⟨W3.heap.size, 0, none⟩) 1 1, .slice (if c = (i + 1) then some ⟨b, o, none⟩ else some ⟨b, o + (i + 1) * 2, none⟩) (l.length - (i + 1)) (c - (i + 1))] 24))) := Lib.hid ((HL.out.alloc HL.out.size _).alloc (by rw [World.size_alloc]; exact Nat.le_succ_of_le HL.out.size) _)
    simp only [wpMem]
    refine wpOp_step rfl (fun K hK => ?_)
    rw [if_pos (by rfl)]
    go_simp
    refine hK _ _ ⟨⟨⟨_, HL.out.alloc HL.out.size _⟩, rfl⟩, ?_⟩
    clear hK K
    refine wpOp_step rfl (fun K hK => ?_)
    rw [if_pos (by rfl)]
    go_simp
    refine hK _ _ ⟨⟨⟨_, HB3.out⟩, rfl⟩, ?_⟩
    clear hK K
    refine wpOp_step rfl (fun K hK => ?_)
    rw [if_pos (by rfl)]
    go_simp
    refine HC.out.mono ?_
    rintro e w5 ⟨v, rfl, hown, hb⟩
    refine hK _ _ ⟨⟨⟨_, bthen HB3.out hb HB3.out.size⟩, rfl⟩, ?_⟩
    clear hK K
    obtain ⟨O3, hO3⟩ : ∃ O : Option Addr, O = (if c = (i + 1) then some ⟨b, o, none⟩ else some ⟨b, o + (i + 1) * 2, none⟩) := ⟨_, rfl⟩
    rw [← hO3]
    clear hO3
    rw [← HADL.out] at hown
    obtain ⟨A5, c5, rfl⟩ := own_slice hown
    have HO5 := Lib.hid ((own2_of_row hown rfl).wide (lo' := w2.heap.size) HB3.out.size (Nat.le_refl _))
    have HCP := Lib.hid (own_cap hown)
    have HB5 := Lib.hid (bthen HB3.out hb HB3.out.size)
    clear hown hb HC
    have HG5 := Lib.hid (HG2.out.next HB5.out)
    have HZ5 := Lib.hid (HZ2.out.next HB5.out)
    have HBW := Lib.hid (bthen HB2.out HB5.out HB2.out.size)
    have hzz := HZ2.out.1
    obtain ⟨Y, hY⟩ : ∃ Y, Y = w5.setCell ⟨w.heap.size, 3, none⟩ (.slice A5 (adR l t y).length c5) := ⟨_, rfl⟩
    have HY : Hid (Has Y w.heap.size [.int .i64 id, .string nm, .int .i64 ze, .slice A5 (adR l t y).length c5] ∧ Has Y (w.heap.size + 2) [.int .i64 0, .string ⟨#[]⟩, .int .i64 0, .slice none 0 0] ∧ Own2 Y w2.heap.size Y.heap.size A5 (adR l t y).length (adR l t y) ∧ Below w.heap.size w Y) := by
      have e1 := HG5.out.set 3 (.slice A5 (adR l t y).length c5)
      have e2 := HZ5.out.far (p := ⟨w.heap.size, 3, none⟩) (by simp) (.slice A5 (adR l t y).length c5)
      have e3 := HO5.out.put ⟨w.heap.size, 3, none⟩ (.slice A5 (adR l t y).length c5) (.inl (by simp only; omega))
      have e4 := HBW.out.setCell (p := ⟨w.heap.size, 3, none⟩) (Nat.le_refl _) (.slice A5 (adR l t y).length c5)
      rw [hY]
      exact ⟨e1, e2, e3.wide (Nat.le_refl _) (by simp [World.setCell]), e4⟩
    have HLN : Hid ((adR l t y).length ≤ maxLen) := by
      unfold Hid maxLen
      rw [HADL.out]
      simp only [List.length_append, List.length_take, List.length_drop, List.length_singleton]
      omega
    have p0 := HG5.out.at_ 0 _ rfl
    have p1 := HG5.out.at_ 1 _ rfl
    have p2 := HG5.out.at_ 2 _ rfl
    have p3 := HG5.out.at_ 3 _ rfl
    have pf0 := HG5.out.free 0
    have pf1 := HG5.out.free 1
    have pf2 := HG5.out.free 2
    have pf3 := HG5.out.free 3
    go_wp2_with fail
    rw [← hY]
    clear p0 p1 p2 p3 pf0 pf1 pf2 pf3
    have HYE := Lib.hid hY
    clear hY
    have HSY := Lib.hid (HY.out.2.2.1.spots (Nat.le_refl _))
    rcases hk2 : gaugeB id nm ze (adR l t y) with _ | _
    · have HG2' := Lib.hid hk2
      have HR2' : Hid (adK id ze nm l t y = false) := by unfold Hid adK; rw [hk2, Bool.and_false]
      clear hk2
      have p0 := HY.out.1.at_ 0 _ rfl
      have p1 := HY.out.1.at_ 1 _ rfl
      have p2 := HY.out.1.at_ 2 _ rfl
      have p3 := HY.out.1.at_ 3 _ rfl
      go_wp2_with fail
      refine (isGauge_v _ _ _ _ _ _ (adR l t y) _ HG2'.out _ HSY.out HLN.out hn).mono ?_
      rintro e w6 ⟨rfl, hb⟩
      have HN := Lib.hid (And.intro (bthen HY.out.2.2.2 hb HY.out.2.2.2.size) (HY.out.2.1.next hb))
      clear hb p0 p1 p2 p3
      have z0 := HN.out.2.at_ 0 _ rfl
      have z1 := HN.out.2.at_ 1 _ rfl
      have z2 := HN.out.2.at_ 2 _ rfl
      have z3 := HN.out.2.at_ 3 _ rfl
      have zf0 := HN.out.2.free 0
      have zf1 := HN.out.2.free 1
      have zf2 := HN.out.2.free 2
      have zf3 := HN.out.2.free 3
      go_wp2_with fail
      refine bodyPost_ret (v := .tuple #[.agg #[.int .i64 0, .string ⟨#[]⟩, .int .i64 0, .slice none 0 0], .bool false]) (by simp [results, Try.results7, go_sem, z0, z1, z2, z3]) rfl (ad_no HR2'.out ?_)
      repeat (first | exact HN.out.1 | refine Below.setCell ?_ (by simp; try omega) _)
    · have HG2' := Lib.hid hk2
      have HR2' : Hid (adK id ze nm l t y = true) := by unfold Hid adK; rw [HG.out, hk2]; rfl
      clear hk2
      have p0 := HY.out.1.at_ 0 _ rfl
      have p1 := HY.out.1.at_ 1 _ rfl
      have p2 := HY.out.1.at_ 2 _ rfl
      have p3 := HY.out.1.at_ 3 _ rfl
      go_wp2_with fail
      refine (isGauge_v _ _ _ _ _ _ (adR l t y) _ HG2'.out _ HSY.out HLN.out hn).mono ?_
      rintro e w6 ⟨rfl, hb⟩
      have HN := Lib.hid (And.intro (bthen HY.out.2.2.2 hb HY.out.2.2.2.size) (And.intro (HY.out.2.1.next hb) (And.intro (HY.out.1.next hb) (And.intro (HY.out.2.2.1.on hb (Nat.le_refl _)) hb.size))))
      clear hb p0 p1 p2 p3
      have z0 := HN.out.2.1.at_ 0 _ rfl
      have z1 := HN.out.2.1.at_ 1 _ rfl
      have z2 := HN.out.2.1.at_ 2 _ rfl
      have z3 := HN.out.2.1.at_ 3 _ rfl
      have zf0 := HN.out.2.1.free 0
      have zf1 := HN.out.2.1.free 1
      have zf2 := HN.out.2.1.free 2
      have zf3 := HN.out.2.1.free 3
      have p0 := HN.out.2.2.1.at_ 0 _ rfl
      have p1 := HN.out.2.2.1.at_ 1 _ rfl
      have p2 := HN.out.2.2.1.at_ 2 _ rfl
      have p3 := HN.out.2.2.1.at_ 3 _ rfl
      go_wp2_with fail
      refine bodyPost_ret (v := .tuple #[.agg #[.int .i64 id, .string nm, .int .i64 ze, .slice A5 (adR l t y).length c5], .bool true]) (by simp [results, Try.results7, go_sem, z0, z1, z2, z3]) rfl (ad_yes HR2'.out ?_ HCP.out ?_)
      · refine ((((HN.out.2.2.2.1.put _ _ ?_).put _ _ ?_).put _ _ ?_).put _ _ ?_).wide ?_ ?_
        all_goals (try simp [World.setCell])
        all_goals (have := HN.out.2.2.2.2; try omega)
      · repeat (first | exact HN.out.1 | refine Below.setCell ?_ (by simp; try omega) _)
end Go.Proofs.Ytlggcfeclbcfaaa
