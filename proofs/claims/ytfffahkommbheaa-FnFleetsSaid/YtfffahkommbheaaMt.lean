/-
  The text of a mark: contract of laws.markText over this translation. Conditions: stated at each theorem.
-/
import Derived.Test.YtfffahkommbheaaBase
import Derived.Laws.IdiomStrings
namespace Go.Proofs.Ytfffahkommbheaa
open Go.RowKit

/-! ### laws.markText -/
/-- The digits of u ahead of b. -/
def mtS : Nat → Nat → ByteArray → ByteArray
  | 0, _, b => b
  | k + 1, u, b => if u = 0 then b else mtS k (u / 10) (ByteArray.mk #[UInt8.ofNat (48 + u % 10)] ++ b)
theorem mtS_zero (k : Nat) (b : ByteArray) : mtS k 0 b = b := by cases k <;> simp [mtS]
/-- The text that a mark lays for v. -/
def mtf (v : Nat) : ByteArray := if v = 0 then ⟨#[109, 48]⟩ else ByteArray.mk #[109] ++ mtS 13 v ⟨#[]⟩
set_option maxRecDepth 100000 in
set_option maxHeartbeats 800000 in
theorem markText_is (v : Nat) (w : World) (hv : v < 10 ^ 13) :
    Calls Try.prog 108 #[.int .i64 v] w fun e w' => e = .returned (.string (mtf v)) ∧ Below w.heap.size w w' := by
  rcases Nat.eq_zero_or_pos v with rfl | hp
  · go_enter Try.func108, Try.ntmps108
    go_wp2_with fail
    go_ret
    exact ⟨rfl, Below.refl _ _⟩
  have HM : Hid (mtf v = ByteArray.mk #[109] ++ mtS 13 v ⟨#[]⟩) := by unfold Hid mtf; rw [if_neg (by omega)]
  go_enter Try.func108, Try.ntmps108
  go_wp2_with fail
  go_loopw [0, 3] (fun m s wr => ∃ (k u : Nat) (b : ByteArray), m = .int .i64 u ∧ s = .string b ∧ k ≤ 13 ∧ u < 10 ^ k ∧ b.size + k ≤ 13 ∧ Hid (mtS k u b = mtS 13 v ⟨#[]⟩) ∧ Hid (Below w.heap.size w wr)) (fun m _ _ => (intOf m).toNat)
  case atStart => exact ⟨13, v, _, rfl, rfl, Nat.le_refl _, hv, by decide, Lib.hid rfl, Lib.hid (Below.refl _ _)⟩
  case round =>
    obtain ⟨k, u, b, rfl, rfl, hk, hu, hb, hS, hB⟩ := hrel
    obtain ⟨W0, rfl⟩ : ∃ W : World, W = wr := ⟨_, rfl⟩
    have hu13 : u < 10000000000000 := Nat.lt_of_lt_of_le hu (Nat.pow_le_pow_right (by decide) hk)
    rcases Nat.eq_zero_or_pos u with rfl | hup
    · have HS2 : Hid (mtf v = ByteArray.mk #[109] ++ b) := Lib.hid (HM.out.trans (by rw [← hS.out, mtS_zero]))
      go_wp2_with fail
      go_ret
      exact ⟨by rw [HS2.out]; rfl, hB.out⟩
    · rcases k with _ | j
      · rw [Nat.pow_zero] at hu; omega
      have hd : u / 10 < 10 ^ j := Nat.div_lt_of_lt_mul (by rw [Nat.mul_comm, ← Nat.pow_succ]; exact hu)
      have HD := Lib.hid hd
      have HS2 : Hid (mtS j (u / 10) (ByteArray.mk #[UInt8.ofNat (48 + u % 10)] ++ b) = mtS 13 v ⟨#[]⟩) := Lib.hid ((show _ = mtS (j + 1) u b by rw [mtS, if_neg (by omega)]).trans hS.out)
      clear hd hu hv
      obtain ⟨d, hdd⟩ : ∃ d : UInt8, d = UInt8.ofNat (48 + u % 10) := ⟨_, rfl⟩
      have hd : (d.toNat : Int) = 48 + (u : Int) % 10 := by rw [hdd, UInt8.toNat_ofNat']; omega
      rw [← hdd] at HS2
      have hback : (convert 22 9 (.slice (some ⟨W0.heap.size, 0, none⟩) 1 1)).run Try.prog (W0.alloc (.cells #[.int .u8 (48 + (u : Int) % 10)] 5)) = .ok (.string ⟨#[d]⟩) (W0.alloc (.cells #[.int .u8 (48 + (u : Int) % 10)] 5)) := by
        refine run_convert_bytes_back (P := Try.prog) _ 22 9 5 ⟨W0.heap.size, 0, none⟩ 1 [d] Try.underlying22 Try.underlying5 Try.underlying9 (fun j hj => ?_)
        obtain rfl : j = 0 := by simpa using hj
        rw [← hd]
        exact (box1 (Below.refl _ _)).2.at_ 0 _ rfl
      have hq : (⟨#[d]⟩ : ByteArray).size = 1 := rfl
      have HB : Hid (Below w.heap.size w (W0.alloc (.cells #[.int .u8 (48 + (u : Int) % 10)] 5))) := Lib.hid (bthen hB.out (box1 (Below.refl _ _)).1 hB.out.size)
      clear hd hdd
      go_wp2_with fail
      go_roundw
      case rel => exact ⟨j, u / 10, _, by first | rfl | go_num, rfl, by omega, HD.out, by rw [ByteArray.size_append, hq]; omega, HS2, HB⟩
      case measure => simp [intOf]; omega
theorem markText_v (v : Nat) (s : ByteArray) (h : s = mtf v) (w : World) (hv : v < 10 ^ 13) :
    Calls Try.prog 108 #[.int .i64 v] w fun e w' => e = .returned (.string s) ∧ Below w.heap.size w w' := by
  subst h
  exact markText_is v w hv
theorem markText_i (x : Int) (v : Nat) (s : ByteArray) (hx : x = v) (h : s = mtf v) (w : World) (hv : v < 10 ^ 13) :
    Calls Try.prog 108 #[.int .i64 x] w fun e w' => e = .returned (.string s) ∧ Below w.heap.size w w' := by
  subst h
  subst hx
  exact markText_is v w hv
theorem markText_h (x : Int) (v : Nat) (s : ByteArray) (hx : x = v) (h : s = mtf v) (w : World) (hv : Hid (v < 10 ^ 13)) :
    Calls Try.prog 108 #[.int .i64 x] w fun e w' => e = .returned (.string s) ∧ Below w.heap.size w w' := markText_i x v s hx h w hv.out
theorem markText_any (v : Nat) (w : World) (hv : v < 10 ^ 13) :
    Calls Try.prog 108 #[.int .i64 v] w fun e w' => (∃ s : ByteArray, e = .returned (.string s)) ∧ Below w.heap.size w w' :=
  (markText_is v w hv).mono fun _ _ h => ⟨⟨_, h.1⟩, h.2⟩
end Go.Proofs.Ytfffahkommbheaa
