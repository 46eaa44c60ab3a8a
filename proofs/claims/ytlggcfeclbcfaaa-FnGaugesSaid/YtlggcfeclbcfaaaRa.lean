/-
  One of the first numbers of a list: contract of spec.l1Cur.among at a part of a list over this translation. Conditions: stated at each theorem.
-/
import Derived.Test.YtlggcfeclbcfaaaRv
namespace Go.Proofs.Ytlggcfeclbcfaaa
open Go.RowKit Go.Sort

theorem has_ints (w : World) (xs : List Int) : Has (w.alloc (.cells (xs.map (Value.int .i64)).toArray 3)) w.heap.size (xs.map (Value.int .i64)) := by
  have h := Has.new w (xs.map (Value.int .i64)).toArray 3
  simpa using h
/-- One of the first r numbers of a list that lies in a block of its own. -/
theorem among_pre (B : Nat) (A : Option Addr) (n c g k b cap r : Nat) (xs : List Int) (W : World) (h : Cur B A n c g k W) (hk : k < 1000000) (h1 : 1 < r) (h2 : r ≤ xs.length) (h3 : xs.length ≤ 200)
    (hb : Has W b (xs.map (Value.int .i64))) (hbg : b ≠ g) :
    Calls Try.prog 37 #[.pointer (some ⟨g, 0, none⟩), .slice (some ⟨b, 0, none⟩) r cap] W (AmongPost AnyI B A n c g k W) := by
  have hl : (xs.take r).length = r := by simp; omega
  have h := among_any AnyI B A n c g k b cap (xs.take r) W h hk (by omega) (by omega) (fun j x hx => by
    rw [List.getElem?_take] at hx
    split at hx
    · exact hb.2.1 j _ (by simp [hx])
    · cases hx) hb.1 hbg (fun _ _ => trivial)
  rwa [hl] at h
end Go.Proofs.Ytlggcfeclbcfaaa
