/-
  A craft that is drawn: contracts of spec.l1Cur.of, spec.l1Cur.craft over this translation. Conditions: stated at each theorem.
-/
import Derived.Test.YtdmnkmdlochogaaRc
import Derived.Test.YtdmnkmdlochogaaVl
import Derived.Deep.DeepCutAuto
namespace Go.Proofs.Ytdmnkmdlochogaa
open Go.RowKit Go.Sort

theorem layC {w : World} {g : Nat} {cs : List Value} (h : Has w g cs) (hl : cs.length = 7) (v : CC) : Has (setL w g 0 [.int .i64 v.id, .string v.nm, .int .i64 v.dr, .int .i64 v.ah, .int .i64 v.be, .int .i64 v.sp, .int .i64 v.fu]) g [.int .i64 v.id, .string v.nm, .int .i64 v.dr, .int .i64 v.ah, .int .i64 v.be, .int .i64 v.sp, .int .i64 v.fu] := by
  match cs, hl with
  | [_, _, _, _, _, _, _], _ => exact ((((((h.set 0 _).set 1 _).set 2 _).set 3 _).set 4 _).set 5 _).set 6 _
def OfPost (M B : Nat) (A : Option Addr) (n c g k : Nat) (w : World) (e : Ending) (w' : World) : Prop :=
  ∃ s : ByteArray, s.size ≤ M ∧ e = .returned (.string s) ∧ Cur B A n c g (k + 1) w' ∧ w.grownBy w' (some g)
theorem of_any (M B : Nat) (A : Option Addr) (n c g k b cap : Nat) (xs : List ByteArray) (w : World) (h : Cur B A n c g k w) (hk : k < 1000000) (h1 : 1 < xs.length) (h2 : xs.length ≤ 200)
    (hc : ∀ j x, xs[j]? = some x → w.cell? ⟨b, j, none⟩ = some (.string x)) (hb : b < w.heap.size) (hbg : b ≠ g) (hp : ∀ x ∈ xs, x.size ≤ M) :
    Calls Try.prog 177 #[.pointer (some ⟨g, 0, none⟩), .slice (some ⟨b, 0, none⟩) xs.length cap] w (OfPost M B A n c g k w) := by
  have HN := Lib.hid (pick_any B A n c g k xs.length w h hk h1 h2)
  have HP := Lib.hid hp
  have HC0 := Lib.hid hc
  clear h hp hc
  go_enter Try.func177, Try.ntmps177
  go_wp2_with (go_at_call 163; refine HN.out.mono ?_; rintro e w' ⟨v, hv, rfl, hc, hg⟩; have HC := Lib.hid hc; have HG := Lib.hid hg; have hcell := (World.cell?_of_block (a := ⟨b, v, none⟩) (hg.block b hb (fun e => hbg (Option.some.inj e)))).trans (HC0.out v xs[v] (List.getElem?_eq_getElem hv)); clear hc hg)
  go_ret
  exact ⟨xs[v], HP.out _ (List.getElem_mem hv), rfl, HC.out, HG.out⟩
theorem of_at (M B : Nat) (A : Option Addr) (n c g k b cap : Nat) (xs : List ByteArray) (w : World) (h : Cur B A n c g k w) (hb : b = w.heap.size) (hk : k < 1000000) (h1 : 1 < xs.length) (h2 : xs.length ≤ 200) (hp : ∀ x ∈ xs, x.size ≤ M) :
    Calls Try.prog 177 #[.pointer (some ⟨g, 0, none⟩), .slice (some ⟨b, 0, none⟩) xs.length cap] (w.alloc (.cells (xs.map Value.string).toArray 9)) (OfPost M B A n c g k w) := by
  subst hb
  have hlt := h.lt
  refine (of_any M B A n c g k w.heap.size cap xs _ (h.alloc _) hk h1 h2 (fun j x hx => by rw [World.cell?_alloc_new]; simp [hx]) (by simp) (by omega) hp).mono ?_
  rintro e w' ⟨s, hs, he, hc, hg⟩
  exact ⟨s, hs, he, hc, grown_trans (World.grownBy_alloc _ _ _) hg⟩
/-- What craft hands back. -/
def CraftPost (B : Nat) (A : Option Addr) (n c g k : Nat) (w : World) (e : Ending) (w' : World) : Prop :=
  ∃ (v : CC) (k' : Nat), k ≤ k' ∧ k' ≤ k + 8 ∧ v.nm.size ≤ 11 ∧ e = .returned (.agg #[.int .i64 v.id, .string v.nm, .int .i64 v.dr, .int .i64 v.ah, .int .i64 v.be, .int .i64 v.sp, .int .i64 v.fu]) ∧ Cur B A n c g k' w' ∧ w.grownBy w' (some g)
end Go.Proofs.Ytdmnkmdlochogaa
