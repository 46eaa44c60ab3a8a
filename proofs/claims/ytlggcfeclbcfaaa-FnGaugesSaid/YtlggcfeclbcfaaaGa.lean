/-
  AddReading of both sides over a gauge that was drawn, whatever its row is; what the results are in each of the two cases. Conditions: stated at each theorem.
-/
import Derived.Test.YtlggcfeclbcfaaaAds
import Derived.Test.YtlggcfeclbcfaaaGf
import Derived.Test.YtlggcfeclbcfaaaDl
import Derived.Test.YtlggcfeclbcfaaaGapsS
import Derived.Test.YtlggcfeclbcfaaaRk
import Derived.Test.YtlggcfeclbcfaaaRb
import Derived.Test.YtlggcfeclbcfaaaOc
namespace Go.Proofs.Ytlggcfeclbcfaaa
open Go.RowKit Go.Sort

/-- A drawn row is nil, or it has an address and room. -/
theorem grow_kind {base m cap : Nat} {l : List (Int × Int)} {R : Option Addr} {W : World} (h : GRow base l (.slice R m cap) W) (hl : l.length = m) :
    (R = none ∧ m = 0 ∧ cap = 0 ∧ l = []) ∨ ∃ gb, R = some ⟨gb, 0, none⟩ ∧ m ≤ cap := by
  unfold GRow at h
  rcases h.2 with ⟨e, h0⟩ | ⟨g, cap', cur, hv, _, _, hc, _⟩
  · injection e with e1 e2 e3
    exact .inl ⟨e1, e2, e3, List.eq_nil_of_length_eq_zero h0⟩
  · injection hv with e1 e2 e3
    exact .inr ⟨g, e1, by omega⟩
theorem addI_row {base m cap : Nat} {R : Option Addr} (id ze : Int) (nm : ByteArray) (l : List (Int × Int)) (t y : Int) (w : World) (h : GRow base l (.slice R m cap) w) (hl : l.length = m) (hs : Spots w w.heap.size R m l) (hm : m ≤ maxLen) (hn : nm.size ≤ maxLen) :
    Calls Try.prog 7 #[.agg #[.int .i64 id, .string nm, .int .i64 ze, .slice R m cap], .agg #[.int .i64 t, .int .i64 y]] w (AdPost id ze nm l t y w) := by
  rcases grow_kind h hl with ⟨rfl, rfl, rfl, rfl⟩ | ⟨gb, rfl, hc⟩
  · exact add_impl_nil id ze nm t y w hn
  · subst hl
    exact add_impl id ze nm gb 0 cap l t y w hs hm hn hc
theorem addS_row {base m cap : Nat} {R : Option Addr} (id ze : Int) (nm : ByteArray) (l : List (Int × Int)) (t y : Int) (w : World) (h : GRow base l (.slice R m cap) w) (hl : l.length = m) (hs : Spots w w.heap.size R m l) (hm : m ≤ maxLen) (hn : nm.size ≤ maxLen) :
    Calls Try.prog 8 #[.agg #[.int .i64 id, .string nm, .int .i64 ze, .slice R m cap], .agg #[.int .i64 t, .int .i64 y]] w (AdPost id ze nm l t y w) := by
  rcases grow_kind h hl with ⟨rfl, rfl, rfl, rfl⟩ | ⟨gb, rfl, hc⟩
  · exact add_spec_nil id ze nm t y w hn
  · subst hl
    exact add_spec id ze nm gb 0 cap l t y w hs hm hn hc
theorem ad_post_no {id ze : Int} {nm : ByteArray} {l : List (Int × Int)} {t y : Int} {w : World} (h : adK id ze nm l t y = false) : AdPost id ze nm l t y w = GaugePost 0 ⟨#[]⟩ 0 [] false w := by
  unfold AdPost adId adNm adZe adLs
  rw [h]; rfl
theorem ad_post_yes {id ze : Int} {nm : ByteArray} {l : List (Int × Int)} {t y : Int} {w : World} (h : adK id ze nm l t y = true) : AdPost id ze nm l t y w = GaugePost id nm ze (adR l t y) true w := by
  unfold AdPost adId adNm adZe adLs
  rw [h]; rfl
theorem sh_post_no {id ze : Int} {nm : ByteArray} {l : List (Int × Int)} {tz : Int} {w : World} (h : shK id ze nm l tz = false) : ShPost id ze nm l tz w = GaugePost 0 ⟨#[]⟩ 0 [] false w := by
  unfold ShPost shId shNm shZe shLs
  rw [h]; rfl
theorem sh_post_yes {id ze : Int} {nm : ByteArray} {l : List (Int × Int)} {tz : Int} {w : World} (h : shK id ze nm l tz = true) : ShPost id ze nm l tz w = GaugePost id nm tz (shL l ze tz) true w := by
  unfold ShPost shId shNm shZe shLs
  rw [h]; rfl
/-- A drawn row, a block later. -/
theorem GRow.on' {base B : Nat} {l : List (Int × Int)} {v : Value} {W W' : World} (h : GRow base l v W) (hb : Below B W W') (hB : W.heap.size ≤ B) : GRow base l v W' :=
  own_any h (row := none) ⟨hb.os, hb.tape, hb.output, hb.size, fun k hk _ => hb.block k (Nat.lt_of_lt_of_le hk hB)⟩ (fun g e => by cases e)
theorem add_len {l : List (Int × Int)} (t y : Int) : (adR l t y).length ≤ l.length + 1 := by
  have h1 := lbK_le l t
  have h2 := adE_le (l := l) (t := t) h1
  unfold adR adL
  simp only [List.length_append, List.length_take, List.length_drop, List.length_singleton]
  omega
/-- What AddReading's result is, and what holds of it. -/
theorem ad_all (id ze : Int) (nm : ByteArray) (l : List (Int × Int)) (t y : Int) (hn : nm.size ≤ maxLen) (hl : l.length ≤ 24) : ∃ (K : Bool) (id' ze' : Int) (nm' : ByteArray) (L : List (Int × Int)), (∀ w, AdPost id ze nm l t y w = GaugePost id' nm' ze' L K w) ∧ L.length ≤ 25 ∧ nm'.size ≤ maxLen ∧
    (K = true → gaugeB id' nm' ze' L = true ∧ htK id' ze' nm' L t = true ∧ htV id' ze' nm' L t = y + ze ∧ (-500 ≤ y ∧ y ≤ 2000) ∧ (-1000 ≤ ze ∧ ze ≤ 1000)) := by
  rcases h : adK id ze nm l t y with _ | _
  · exact ⟨false, 0, 0, ⟨#[]⟩, [], fun w => ad_post_no h, by simp, by unfold maxLen; decide, fun e => by cases e⟩
  · have := add_len (l := l) t y
    exact ⟨true, id, ze, nm, adR l t y, fun w => ad_post_yes h, by omega, hn, fun _ => ad_told h⟩
theorem sh_all (id ze : Int) (nm : ByteArray) (l : List (Int × Int)) (tz : Int) (hn : nm.size ≤ maxLen) (hl : l.length ≤ 24) : ∃ (K : Bool) (id' ze' : Int) (nm' : ByteArray) (L : List (Int × Int)), (∀ w, ShPost id ze nm l tz w = GaugePost id' nm' ze' L K w) ∧ L.length ≤ 25 ∧ nm'.size ≤ maxLen ∧
    (K = true → ∀ (k : Nat) (x y : Int), l[k]? = some (x, y) → htK id ze nm l x = true ∧ htK id' ze' nm' L x = true ∧ htV id ze nm l x = y + ze ∧ htV id' ze' nm' L x = y + ze) := by
  rcases h : shK id ze nm l tz with _ | _
  · exact ⟨false, 0, 0, ⟨#[]⟩, [], fun w => sh_post_no h, by simp, by unfold maxLen; decide, fun e => by cases e⟩
  · exact ⟨true, id, tz, nm, shL l ze tz, fun w => sh_post_yes h, by rw [shL_len]; omega, hn, fun _ k x y hl => sh_told h hl⟩
end Go.Proofs.Ytlggcfeclbcfaaa
