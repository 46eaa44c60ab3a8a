/-
  What the functions of chapter 6 answer, in plain words. Conditions: stated at each theorem.
-/
import Derived.Test.YtdmnkmdlochogabYt
namespace Go.Proofs.Ytdmnkmdlochogab
open Go.RowKit
set_option linter.unusedVariables false

/-- A fraction and whether there is one, handed back. -/
def Q3Post (o : Option Rat) (w : World) (e : Ending) (w' : World) : Prop := e = .returned (.tuple #[.int .i64 (qN o), .int .i64 (qD o), .bool (qK o)]) ∧ Below w.heap.size w w'
theorem q3_none {o : Option Rat} {w w' : World} (h : o = none) (hb : Below w.heap.size w w') : Q3Post o w (.returned (.tuple #[.int .i64 0, .int .i64 0, .bool false])) w' := by
  subst h; exact ⟨rfl, hb⟩
theorem q3_some {o : Option Rat} {r : Rat} {w w' : World} (h : o = some r) (hb : Below w.heap.size w w') : Q3Post o w (.returned (.tuple #[.int .i64 r.num, .int .i64 r.den, .bool true])) w' := by
  subst h; exact ⟨rfl, hb⟩
def slO (l : List (Int × Int)) (k num den : Int) : Option Rat := if (strB l && inB k 0 ((l.length : Int) - 1) && slB num den) = true then some (mkRat (num * (l.getD k.toNat (0, 0)).2) (den * sp0 l).toNat) else none
def ruO (l : List (Int × Int)) (num den d : Int) : Option Rat := if (reB l d && slB num den) = true then some (mkRat (num * spr l d) (den * sp0 l).toNat) else none
def sfO (l : List (Int × Int)) (run : Int) : Option Rat := if (strB l && inB run 0 60000) = true then some (mkRat (run * sp0 l) (spr l (thk l)).toNat) else none
def dtO (l : List (Int × Int)) (d : Int) : Option Rat := if reB l d = true then some (tmQ l d) else none
def daO (l : List (Int × Int)) (t : Int) : Option Rat := if (strB l && inB t 0 200) = true then dpQ l (t : Rat) else none
theorem sp0_at {l : List (Int × Int)} {x y : Int} (h : l[0]? = some (x, y)) : sp0 l = y := by
  cases l with
  | nil => simp at h
  | cons p t => simp at h; subst h; rfl
theorem getD_of {l : List (Int × Int)} {k : Nat} {x y : Int} (h : l[k]? = some (x, y)) : (l.getD k (0, 0)).2 = y := by
  rw [List.getD_eq_getElem?_getD, h]; rfl
theorem toNat_mul (a b : Nat) : ((a : Int) * (b : Int)).toNat = a * b := by rw [← Int.natCast_mul, Int.toNat_natCast]
theorem re_yes {l : List (Int × Int)} {d : Int} (h : reB l d = true) : strB l = true ∧ 0 ≤ d ∧ d ≤ thk l := by
  unfold reB at h
  rw [Bool.and_eq_true] at h
  have := inB_yes h.2
  exact ⟨h.1, this.1, this.2⟩
theorem sl_mk {l : List (Int × Int)} {k y : Nat} {num x z x0 : Int} {den : Nat} (h : (strB l && inB (k : Int) 0 ((l.length : Int) - 1) && slB num den) = true) (hk : l[k]? = some (x, z)) (h0 : l[0]? = some (x0, (y : Int))) : slO l k num den = some (mkRat (num * z) (den * y)) := by
  unfold slO
  rw [if_pos h, Int.toNat_natCast, getD_of hk, sp0_at h0, toNat_mul]
theorem ru_mk {l : List (Int × Int)} {y : Nat} {num d x0 : Int} {den : Nat} (h : (reB l d && slB num den) = true) (h0 : l[0]? = some (x0, (y : Int))) : ruO l num den d = some (mkRat (num * spr l d) (den * y)) := by
  unfold ruO
  rw [if_pos h, sp0_at h0, toNat_mul]
theorem sf_mk {l : List (Int × Int)} {y : Nat} {run x0 : Int} {v : Nat} (h : (strB l && inB run 0 60000) = true) (h0 : l[0]? = some (x0, (y : Int))) (hv : spr l (thk l) = v) : sfO l run = some (mkRat (run * y) v) := by
  unfold sfO
  rw [if_pos h, sp0_at h0, hv, Int.toNat_natCast]
end Go.Proofs.Ytdmnkmdlochogab
