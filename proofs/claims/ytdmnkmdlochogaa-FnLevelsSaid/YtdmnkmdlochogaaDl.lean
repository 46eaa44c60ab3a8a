/-
  Draws of a gauge and numbers: contracts of spec.DrawShiftZero, DrawGapsOf, DrawAddReading over this translation. Conditions: stated at each theorem.
-/
import Derived.Test.YtdmnkmdlochogaaDk
namespace Go.Proofs.Ytdmnkmdlochogaa
open Go.RowKit Go.Sort

theorem cur_low' {B B' : Nat} {A : Option Addr} {n c g k : Nat} {W : World} (h : Cur B A n c g k W) (hr : CodeRow B' A n W) (hB : B' ≤ B) : Cur B' A n c g k W :=
  { h with row := hr, old := Nat.le_trans hB h.old }
theorem grow_own {base m cap : Nat} {l : List (Int × Int)} {R : Option Addr} {W : World} (h : GRow base l (.slice R m cap) W) (hl : l.length = m) : Own2 W base W.heap.size R m l := by
  unfold GRow at h
  rw [hl] at h
  exact own2_of_row h hl
/-- A gauge that was drawn, and what else. -/
def DrawG (w : World) (w' : World) (gn : ByteArray) (gR : Option Addr) (gm gc : Nat) (l : List (Int × Int)) : Prop :=
  l.length = gm ∧ gm ≤ 24 ∧ gn.size ≤ 11 ∧ GRow w.heap.size l (.slice gR gm gc) w' ∧ Below w.heap.size w w'
def planZ : List (Option Nat × Kd) := [(some 11, .agg), (some 12, .ptr), (some 13, .row [0, -100, 40, 1000, -1000, -1001, 1001]), (some 14, .ptr), (some 15, .num 0 23), (some 16, .num 0 2), (some 17, .num 5 7), (some 18, .pre [0, -100, 40, 1000, -1000, -1001, 1001]), (some 19, .any), (none, .agg), (some 3, .any)]
def fixZ (g bb br _b2 : Nat) : List (Nat × Value) := [(4, .pointer (some ⟨g, 0, none⟩)), (5, .pointer (some ⟨bb, 0, none⟩)), (2, .pointer (some ⟨br, 0, none⟩))]
theorem planZ_ok (g bb br b2 : Nat) : planB 20 ((fixZ g bb br b2).map (·.1)) planZ = true := by kernel_rfl
def DrawZPost (w : World) (e : Ending) (w' : World) : Prop := ∃ (gi : Int) (gn : ByteArray) (gz : Int) (gR : Option Addr) (gm gc : Nat) (l : List (Int × Int)) (x : Int), e = .returned (.tuple #[.agg #[.int .i64 gi, .string gn, .int .i64 gz, .slice gR gm gc], .int .i64 x]) ∧ DrawG w w' gn gR gm gc l
def planP : List (Option Nat × Kd) := [(some 11, .agg), (some 12, .ptr), (some 13, .row [1, 10, 19, 20, 60, 10000, 0, 10001]), (some 14, .ptr), (some 15, .num 0 23), (some 16, .num 0 2), (some 17, .num 6 8), (some 18, .pre [1, 10, 19, 20, 60, 10000, 0, 10001]), (some 19, .any), (none, .agg), (some 3, .any)]
def fixP (g bb br _b2 : Nat) : List (Nat × Value) := [(4, .pointer (some ⟨g, 0, none⟩)), (5, .pointer (some ⟨bb, 0, none⟩)), (2, .pointer (some ⟨br, 0, none⟩))]
theorem planP_ok (g bb br b2 : Nat) : planB 20 ((fixP g bb br b2).map (·.1)) planP = true := by kernel_rfl
def DrawPPost (w : World) (e : Ending) (w' : World) : Prop := ∃ (gi : Int) (gn : ByteArray) (gz : Int) (gR : Option Addr) (gm gc : Nat) (l : List (Int × Int)) (x : Int), e = .returned (.tuple #[.agg #[.int .i64 gi, .string gn, .int .i64 gz, .slice gR gm gc], .int .i64 x]) ∧ DrawG w w' gn gR gm gc l
def planA : List (Option Nat × Kd) := [(some 11, .agg), (some 12, .ptr), (some 13, .row [0, 10, 15, 20, 620, 10000, -1, 10001]), (some 14, .ptr), (some 15, .num 0 23), (some 16, .num 0 2), (some 17, .num 6 8), (some 18, .pre [0, 10, 15, 20, 620, 10000, -1, 10001]), (some 19, .any), (some 20, .ptr), (some 21, .row [-500, 77, 2000, -501, 2001]), (some 22, .ptr), (some 23, .num 0 23), (some 24, .num 0 2), (some 25, .num 3 5), (some 26, .pre [-500, 77, 2000, -501, 2001]), (some 27, .any), (some 28, .rd), (none, .agg), (none, .rd)]
def fixA (g bb br b2 : Nat) : List (Nat × Value) := [(4, .pointer (some ⟨g, 0, none⟩)), (5, .pointer (some ⟨bb, 0, none⟩)), (2, .pointer (some ⟨br, 0, none⟩)), (3, .pointer (some ⟨b2, 0, none⟩))]
theorem planA_ok (g bb br b2 : Nat) : planB 29 ((fixA g bb br b2).map (·.1)) planA = true := by kernel_rfl
def DrawAPost (w : World) (e : Ending) (w' : World) : Prop := ∃ (gi : Int) (gn : ByteArray) (gz : Int) (gR : Option Addr) (gm gc : Nat) (l : List (Int × Int)) (x y : Int), e = .returned (.tuple #[.agg #[.int .i64 gi, .string gn, .int .i64 gz, .slice gR gm gc], .agg #[.int .i64 x, .int .i64 y]]) ∧ DrawG w w' gn gR gm gc l
def planH4 : List (Option Nat × Kd) := [(some 20, .agg), (some 21, .fld), (some 22, .val), (some 23, .ptr), (some 24, .fld), (some 25, .val), (some 26, .cnt), (some 27, .ix), (some 28, .el), (some 29, .el), (some 30, .any), (none, .agg), (some 3, .any)]
def fixH4 (g bb br : Nat) : List (Nat × Value) := [(4, .pointer (some ⟨g, 0, none⟩)), (5, .pointer (some ⟨bb, 0, none⟩)), (2, .pointer (some ⟨br, 0, none⟩))]
theorem planH4_ok (g bb br : Nat) : planB 35 ((fixH4 g bb br).map (·.1)) planH4 = true := by kernel_rfl
def planH5 : List (Option Nat × Kd) := [(some 31, .agg), (some 32, .ptr), (some 33, .row [0, 5, -1]), (some 34, .any), (none, .agg), (some 3, .any)]
def fixH5 (g bb br : Nat) : List (Nat × Value) := [(4, .pointer (some ⟨g, 0, none⟩)), (5, .pointer (some ⟨bb, 0, none⟩)), (2, .pointer (some ⟨br, 0, none⟩))]
theorem planH5_ok (g bb br : Nat) : planB 35 ((fixH5 g bb br).map (·.1)) planH5 = true := by kernel_rfl
def DrawHPost (w : World) (e : Ending) (w' : World) : Prop := ∃ (gi : Int) (gn : ByteArray) (gz : Int) (gR : Option Addr) (gm gc : Nat) (l : List (Int × Int)) (x : Int), e = .returned (.tuple #[.agg #[.int .i64 gi, .string gn, .int .i64 gz, .slice gR gm gc], .int .i64 x]) ∧ DrawG w w' gn gR gm gc l
end Go.Proofs.Ytdmnkmdlochogaa
