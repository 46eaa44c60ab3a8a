/-
  Plain facts for laws.FnGauges. No program is spoken of but by the imports.
-/
import Derived.Test.YtlggcfeclbcfaaaAdn
import Derived.Test.YtlggcfeclbcfaaaHeight
import Derived.Test.YtlggcfeclbcfaaaGaps
namespace Go.Proofs.Ytlggcfeclbcfaaa
open Go.RowKit Go.Sort

theorem gB_good {id ze : Int} {nm : ByteArray} {l : List (Int × Int)} (h : gaugeB id nm ze l = true) : Asc l := asc_of_good (good_of_gauge h).2.2.2.2
/-- A reading of a valid gauge is told. -/
theorem ht_there {id ze : Int} {nm : ByteArray} {l : List (Int × Int)} {k : Nat} {x y : Int} (h : gaugeB id nm ze l = true) (hl : l[k]? = some (x, y)) : htK id ze nm l x = true ∧ htV id ze nm l x = y + ze := by
  have hA := gB_good h
  have hk := (List.getElem?_eq_some_iff.1 hl).1
  have ht := tm_of hl
  obtain ⟨h1, h2⟩ := at_found (t := x) hk (fun p hp e => by have := hA p k hp hk; omega) ht
  have hK : htK id ze nm l x = true := by unfold htK; rw [h, h1]; rfl
  refine ⟨hK, ?_⟩
  unfold htV
  rw [if_pos hK, h2, lv_of hl]
theorem ht_bounds {id ze : Int} {nm : ByteArray} {l : List (Int × Int)} {k : Nat} {x y : Int} (h : gaugeB id nm ze l = true) (hl : l[k]? = some (x, y)) : (-500 ≤ y ∧ y ≤ 2000) ∧ (-1000 ≤ ze ∧ ze ≤ 1000) := by
  have hst := good_at (good_of_gauge h).2.2.2.2 (List.getElem?_eq_some_iff.1 hl).1
  unfold stepB readP at hst
  rw [getD_at hl] at hst
  simp only [Bool.and_eq_true] at hst
  exact ⟨inB_yes hst.1.2, inB_yes (good_of_gauge h).2.2.1⟩
theorem lbK_le (l : List (Int × Int)) (t : Int) : lbK l t ≤ l.length := List.findIdx_le_length
/-- A reading that is added is told. -/
theorem ad_told {id ze : Int} {nm : ByteArray} {l : List (Int × Int)} {t y : Int} (h : adK id ze nm l t y = true) : gaugeB id nm ze (adR l t y) = true ∧ htK id ze nm (adR l t y) t = true ∧ (htV id ze nm (adR l t y) t = y + ze ∧ (-500 ≤ y ∧ y ≤ 2000) ∧ (-1000 ≤ ze ∧ ze ≤ 1000)) := by
  unfold adK at h
  rw [Bool.and_eq_true] at h
  have hle := lbK_le l t
  suffices hq : (adR l t y)[lbK l t]? = some (t, y) from ⟨h.2, (ht_there h.2 hq).1, (ht_there h.2 hq).2, ht_bounds h.2 hq⟩
  unfold adR adL
  rw [List.append_assoc, List.getElem?_append_right (by rw [List.length_take]; omega), List.length_take, Nat.min_eq_left hle]
  simp
/-- Heights stay when the zero is shifted. -/
theorem sh_told {id ze : Int} {nm : ByteArray} {l : List (Int × Int)} {to : Int} {k : Nat} {x y : Int} (h : shK id ze nm l to = true) (hl : l[k]? = some (x, y)) :
    htK id ze nm l x = true ∧ htK id to nm (shL l ze to) x = true ∧ htV id ze nm l x = y + ze ∧ htV id to nm (shL l ze to) x = y + ze := by
  unfold shK at h
  rw [Bool.and_eq_true, Bool.and_eq_true] at h
  obtain ⟨z1, z2⟩ := inB_yes (good_of_gauge h.1.1).2.2.1
  obtain ⟨t1, t2⟩ := inB_yes h.1.2
  have hst := good_at (good_of_gauge h.1.1).2.2.2.2 (List.getElem?_eq_some_iff.1 hl).1
  unfold stepB readP at hst
  rw [getD_at hl] at hst
  simp only [Bool.and_eq_true] at hst
  obtain ⟨y1, y2⟩ := inB_yes hst.1.2
  have hw : wrap64 (y + ze - to) + to = y + ze := by unfold wrap64; omega
  obtain ⟨h1, h2⟩ := ht_there h.1.1 hl
  have hs : (shL l ze to)[k]? = some (x, wrap64 (y + ze - to)) := by unfold shL; rw [List.getElem?_map, hl]; rfl
  obtain ⟨h3, h4⟩ := ht_there h.2 hs
  exact ⟨h1, h3, h2, h4.trans hw⟩
/-- A gap lies between two readings, and is longer than the minutes. -/
theorem gp_told {id ze : Int} {nm : ByteArray} {l : List (Int × Int)} {m : Int} {j : Nat} {a b : Int} (h : (gpR id ze nm l m)[j]? = some (a, b)) : htK id ze nm l a = true ∧ htK id ze nm l b = true ∧ m < b - a := by
  unfold gpR at h
  split at h
  · rename_i hk
    unfold gpK at hk
    rw [Bool.and_eq_true] at hk
    unfold gpL at h
    have hm := List.mem_of_getElem? h
    obtain ⟨i, hi, he⟩ := List.mem_map.1 hm
    obtain ⟨hr, hb⟩ := List.mem_filter.1 hi
    have hil : i < l.length := by simpa using hr
    unfold gpB at hb
    obtain ⟨h1, h2⟩ := of_decide_eq_true hb
    obtain ⟨rfl, rfl⟩ := Prod.mk.inj he
    have e1 : l[i - 1]? = some (l[i - 1]'(by omega)) := List.getElem?_eq_getElem _
    have e2 : l[i]? = some (l[i]'hil) := List.getElem?_eq_getElem _
    refine ⟨?_, ?_, h2⟩
    · have := (ht_there hk.1 (x := (l[i - 1]'(by omega)).1) (y := (l[i - 1]'(by omega)).2) e1).1
      rwa [tm_get l (i - 1) (by omega)]
    · have := (ht_there hk.1 (x := (l[i]'hil).1) (y := (l[i]'hil).2) e2).1
      rwa [tm_get l i hil]
  · cases h
end Go.Proofs.Ytlggcfeclbcfaaa
