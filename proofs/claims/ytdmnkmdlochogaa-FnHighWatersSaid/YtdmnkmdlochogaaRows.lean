/-
  No cell of these rows narrows 'for every input' (looked for: loops, veiled, ifaces, maps, wideKeys, modest, calm, conditions, laid).
  DERIVED. THE GIVEN ROWS OF THIS SEAT. 12 by the template 'for every input the law returns true; each argument reads behind the call as it read before'; 0 by the template 'total and deterministic' (their statements: YtdmnkmdlochogaaTotals.lean).
  GIVEN WITH THE SEED: the statements are not yours to turn. If you find one false, say at which input.
  Laid BY PROGRAM, IN A SANDBOX (cutbox-rows.mjs): the forced cells as the released guide's own fill.sh prints them over the translation 0ca028302533da8d… (all of the seat's roots in one cut). By AI agents, Wed Nov 11 2026. No macro, syntax, notation, axiom, sorry.
-/
import Derived.Test.YtdmnkmdlochogaaChecked
import GoSem.Claim
import GoSem.ClaimJoined
import GoSem.ClaimMapViews
import Derived.JoinedTies
import Derived.KernelRfl
namespace Go.Proofs.Ytdmnkmdlochogaa
/- THE CELL 'sum', in the pinned program and in every row, IS THE sha256 OF THE DUMP (.gsa) THAT YtdmnkmdlochogaaProg.lean LOADS. Nothing in Lean hashes anything: it is a label: what it is worth is what the hold of that sum in a sandbox is worth. -/
noncomputable def Try.pinned : Pinned := { name := "ytdmnkmdlochogaa", sum := "0ca028302533da8d718b2ef16867b59c674cddcf4f47c33eae1fbe411f9e7044", checked := Try.checked }
namespace Rows
def none {H : Type} : Left H := { results := [], args := [] }

/-- 'laws.FnLevels': WHATEVER THE INPUT: true; the input reads as it did. -/
def fnLevelsSpec : ChangeSpec := { name := "fnLevels", fn := fun _ => fun
  | [d] => { results := [.lit (.bool true)], args := [d] }
  | _ => none }
def fnLevelsRow : OpenClaim := { program := "ytdmnkmdlochogaa", sum := "0ca028302533da8d718b2ef16867b59c674cddcf4f47c33eae1fbe411f9e7044", func := "loop.example/g01031/laws.FnLevels", spec := "fnLevels", unfollowed := true, recurses := true, apart := false }
def FnLevelsSaid : Prop := fnLevelsRow.holds Try.pinned (OpenSpec.ofChange fnLevelsSpec)

/-- ITS FALSE NEIGHBOUR: 'it returns false'. Refute it at one input. -/
def fnLevelsWrong : ChangeSpec := { name := "fnLevels", fn := fun _ => fun
  | [d] => { results := [.lit (.bool false)], args := [d] }
  | _ => none }
def FnLevelsWrongFalsely : Prop := fnLevelsRow.holds Try.pinned (OpenSpec.ofChange fnLevelsWrong)

/-- 'laws.FnTideLevels': WHATEVER THE INPUT: true; the input reads as it did. -/
def fnTideLevelsSpec : ChangeSpec := { name := "fnTideLevels", fn := fun _ => fun
  | [d] => { results := [.lit (.bool true)], args := [d] }
  | _ => none }
def fnTideLevelsRow : OpenClaim := { program := "ytdmnkmdlochogaa", sum := "0ca028302533da8d718b2ef16867b59c674cddcf4f47c33eae1fbe411f9e7044", func := "loop.example/g01031/laws.FnTideLevels", spec := "fnTideLevels", unfollowed := true, recurses := true, apart := false }
def FnTideLevelsSaid : Prop := fnTideLevelsRow.holds Try.pinned (OpenSpec.ofChange fnTideLevelsSpec)

/-- ITS FALSE NEIGHBOUR: 'it returns false'. Refute it at one input. -/
def fnTideLevelsWrong : ChangeSpec := { name := "fnTideLevels", fn := fun _ => fun
  | [d] => { results := [.lit (.bool false)], args := [d] }
  | _ => none }
def FnTideLevelsWrongFalsely : Prop := fnTideLevelsRow.holds Try.pinned (OpenSpec.ofChange fnTideLevelsWrong)

/-- 'laws.FnHighWaters': WHATEVER THE INPUT: true; the input reads as it did. -/
def fnHighWatersSpec : ChangeSpec := { name := "fnHighWaters", fn := fun _ => fun
  | [d] => { results := [.lit (.bool true)], args := [d] }
  | _ => none }
def fnHighWatersRow : OpenClaim := { program := "ytdmnkmdlochogaa", sum := "0ca028302533da8d718b2ef16867b59c674cddcf4f47c33eae1fbe411f9e7044", func := "loop.example/g01031/laws.FnHighWaters", spec := "fnHighWaters", unfollowed := true, recurses := true, apart := false }
def FnHighWatersSaid : Prop := fnHighWatersRow.holds Try.pinned (OpenSpec.ofChange fnHighWatersSpec)

/-- ITS FALSE NEIGHBOUR: 'it returns false'. Refute it at one input. -/
def fnHighWatersWrong : ChangeSpec := { name := "fnHighWaters", fn := fun _ => fun
  | [d] => { results := [.lit (.bool false)], args := [d] }
  | _ => none }
def FnHighWatersWrongFalsely : Prop := fnHighWatersRow.holds Try.pinned (OpenSpec.ofChange fnHighWatersWrong)

/-- 'laws.FnSupport': WHATEVER THE INPUT: true; the input reads as it did. -/
def fnSupportSpec : ChangeSpec := { name := "fnSupport", fn := fun _ => fun
  | [d] => { results := [.lit (.bool true)], args := [d] }
  | _ => none }
def fnSupportRow : OpenClaim := { program := "ytdmnkmdlochogaa", sum := "0ca028302533da8d718b2ef16867b59c674cddcf4f47c33eae1fbe411f9e7044", func := "loop.example/g01031/laws.FnSupport", spec := "fnSupport", unfollowed := true, recurses := true, apart := false }
def FnSupportSaid : Prop := fnSupportRow.holds Try.pinned (OpenSpec.ofChange fnSupportSpec)

/-- ITS FALSE NEIGHBOUR: 'it returns false'. Refute it at one input. -/
def fnSupportWrong : ChangeSpec := { name := "fnSupport", fn := fun _ => fun
  | [d] => { results := [.lit (.bool false)], args := [d] }
  | _ => none }
def FnSupportWrongFalsely : Prop := fnSupportRow.holds Try.pinned (OpenSpec.ofChange fnSupportWrong)

/-- 'laws.FnExactZeroError': WHATEVER THE INPUT: true; the input reads as it did. -/
def fnExactZeroErrorSpec : ChangeSpec := { name := "fnExactZeroError", fn := fun _ => fun
  | [d1, d2, d3] => { results := [.lit (.bool true)], args := [d1, d2, d3] }
  | _ => none }
def fnExactZeroErrorRow : OpenClaim := { program := "ytdmnkmdlochogaa", sum := "0ca028302533da8d718b2ef16867b59c674cddcf4f47c33eae1fbe411f9e7044", func := "loop.example/g01031/laws.FnExactZeroError", spec := "fnExactZeroError", unfollowed := true, recurses := true, apart := false }
def FnExactZeroErrorSaid : Prop := fnExactZeroErrorRow.holds Try.pinned (OpenSpec.ofChange fnExactZeroErrorSpec)

/-- ITS FALSE NEIGHBOUR: 'it returns false'. Refute it at one input. -/
def fnExactZeroErrorWrong : ChangeSpec := { name := "fnExactZeroError", fn := fun _ => fun
  | [d1, d2, d3] => { results := [.lit (.bool false)], args := [d1, d2, d3] }
  | _ => none }
def FnExactZeroErrorWrongFalsely : Prop := fnExactZeroErrorRow.holds Try.pinned (OpenSpec.ofChange fnExactZeroErrorWrong)

/-- 'laws.FnExactLevelAt': WHATEVER THE INPUT: true; the input reads as it did. -/
def fnExactLevelAtSpec : ChangeSpec := { name := "fnExactLevelAt", fn := fun _ => fun
  | [d1, d2] => { results := [.lit (.bool true)], args := [d1, d2] }
  | _ => none }
def fnExactLevelAtRow : OpenClaim := { program := "ytdmnkmdlochogaa", sum := "0ca028302533da8d718b2ef16867b59c674cddcf4f47c33eae1fbe411f9e7044", func := "loop.example/g01031/laws.FnExactLevelAt", spec := "fnExactLevelAt", unfollowed := true, recurses := true, apart := false }
def FnExactLevelAtSaid : Prop := fnExactLevelAtRow.holds Try.pinned (OpenSpec.ofChange fnExactLevelAtSpec)

/-- ITS FALSE NEIGHBOUR: 'it returns false'. Refute it at one input. -/
def fnExactLevelAtWrong : ChangeSpec := { name := "fnExactLevelAt", fn := fun _ => fun
  | [d1, d2] => { results := [.lit (.bool false)], args := [d1, d2] }
  | _ => none }
def FnExactLevelAtWrongFalsely : Prop := fnExactLevelAtRow.holds Try.pinned (OpenSpec.ofChange fnExactLevelAtWrong)

/-- 'laws.FnExactReducedDepth': WHATEVER THE INPUT: true; the input reads as it did. -/
def fnExactReducedDepthSpec : ChangeSpec := { name := "fnExactReducedDepth", fn := fun _ => fun
  | [d1, d2, d3] => { results := [.lit (.bool true)], args := [d1, d2, d3] }
  | _ => none }
def fnExactReducedDepthRow : OpenClaim := { program := "ytdmnkmdlochogaa", sum := "0ca028302533da8d718b2ef16867b59c674cddcf4f47c33eae1fbe411f9e7044", func := "loop.example/g01031/laws.FnExactReducedDepth", spec := "fnExactReducedDepth", unfollowed := true, recurses := true, apart := false }
def FnExactReducedDepthSaid : Prop := fnExactReducedDepthRow.holds Try.pinned (OpenSpec.ofChange fnExactReducedDepthSpec)

/-- ITS FALSE NEIGHBOUR: 'it returns false'. Refute it at one input. -/
def fnExactReducedDepthWrong : ChangeSpec := { name := "fnExactReducedDepth", fn := fun _ => fun
  | [d1, d2, d3] => { results := [.lit (.bool false)], args := [d1, d2, d3] }
  | _ => none }
def FnExactReducedDepthWrongFalsely : Prop := fnExactReducedDepthRow.holds Try.pinned (OpenSpec.ofChange fnExactReducedDepthWrong)

/-- 'laws.FnExactLevelBetween': WHATEVER THE INPUT: true; the input reads as it did. -/
def fnExactLevelBetweenSpec : ChangeSpec := { name := "fnExactLevelBetween", fn := fun _ => fun
  | [d1, d2, d3, d4, d5] => { results := [.lit (.bool true)], args := [d1, d2, d3, d4, d5] }
  | _ => none }
def fnExactLevelBetweenRow : OpenClaim := { program := "ytdmnkmdlochogaa", sum := "0ca028302533da8d718b2ef16867b59c674cddcf4f47c33eae1fbe411f9e7044", func := "loop.example/g01031/laws.FnExactLevelBetween", spec := "fnExactLevelBetween", unfollowed := true, recurses := true, apart := false }
def FnExactLevelBetweenSaid : Prop := fnExactLevelBetweenRow.holds Try.pinned (OpenSpec.ofChange fnExactLevelBetweenSpec)

/-- ITS FALSE NEIGHBOUR: 'it returns false'. Refute it at one input. -/
def fnExactLevelBetweenWrong : ChangeSpec := { name := "fnExactLevelBetween", fn := fun _ => fun
  | [d1, d2, d3, d4, d5] => { results := [.lit (.bool false)], args := [d1, d2, d3, d4, d5] }
  | _ => none }
def FnExactLevelBetweenWrongFalsely : Prop := fnExactLevelBetweenRow.holds Try.pinned (OpenSpec.ofChange fnExactLevelBetweenWrong)

/-- 'laws.FnExactHighestLevel': WHATEVER THE INPUT: true; the input reads as it did. -/
def fnExactHighestLevelSpec : ChangeSpec := { name := "fnExactHighestLevel", fn := fun _ => fun
  | [d1, d2, d3] => { results := [.lit (.bool true)], args := [d1, d2, d3] }
  | _ => none }
def fnExactHighestLevelRow : OpenClaim := { program := "ytdmnkmdlochogaa", sum := "0ca028302533da8d718b2ef16867b59c674cddcf4f47c33eae1fbe411f9e7044", func := "loop.example/g01031/laws.FnExactHighestLevel", spec := "fnExactHighestLevel", unfollowed := true, recurses := true, apart := false }
def FnExactHighestLevelSaid : Prop := fnExactHighestLevelRow.holds Try.pinned (OpenSpec.ofChange fnExactHighestLevelSpec)

/-- ITS FALSE NEIGHBOUR: 'it returns false'. Refute it at one input. -/
def fnExactHighestLevelWrong : ChangeSpec := { name := "fnExactHighestLevel", fn := fun _ => fun
  | [d1, d2, d3] => { results := [.lit (.bool false)], args := [d1, d2, d3] }
  | _ => none }
def FnExactHighestLevelWrongFalsely : Prop := fnExactHighestLevelRow.holds Try.pinned (OpenSpec.ofChange fnExactHighestLevelWrong)

/-- 'laws.FnExactMinutesWith': WHATEVER THE INPUT: true; the input reads as it did. -/
def fnExactMinutesWithSpec : ChangeSpec := { name := "fnExactMinutesWith", fn := fun _ => fun
  | [d1, d2, d3, d4] => { results := [.lit (.bool true)], args := [d1, d2, d3, d4] }
  | _ => none }
def fnExactMinutesWithRow : OpenClaim := { program := "ytdmnkmdlochogaa", sum := "0ca028302533da8d718b2ef16867b59c674cddcf4f47c33eae1fbe411f9e7044", func := "loop.example/g01031/laws.FnExactMinutesWith", spec := "fnExactMinutesWith", unfollowed := true, recurses := true, apart := false }
def FnExactMinutesWithSaid : Prop := fnExactMinutesWithRow.holds Try.pinned (OpenSpec.ofChange fnExactMinutesWithSpec)

/-- ITS FALSE NEIGHBOUR: 'it returns false'. Refute it at one input. -/
def fnExactMinutesWithWrong : ChangeSpec := { name := "fnExactMinutesWith", fn := fun _ => fun
  | [d1, d2, d3, d4] => { results := [.lit (.bool false)], args := [d1, d2, d3, d4] }
  | _ => none }
def FnExactMinutesWithWrongFalsely : Prop := fnExactMinutesWithRow.holds Try.pinned (OpenSpec.ofChange fnExactMinutesWithWrong)

/-- 'laws.FnExactFirstMinuteWith': WHATEVER THE INPUT: true; the input reads as it did. -/
def fnExactFirstMinuteWithSpec : ChangeSpec := { name := "fnExactFirstMinuteWith", fn := fun _ => fun
  | [d1, d2, d3] => { results := [.lit (.bool true)], args := [d1, d2, d3] }
  | _ => none }
def fnExactFirstMinuteWithRow : OpenClaim := { program := "ytdmnkmdlochogaa", sum := "0ca028302533da8d718b2ef16867b59c674cddcf4f47c33eae1fbe411f9e7044", func := "loop.example/g01031/laws.FnExactFirstMinuteWith", spec := "fnExactFirstMinuteWith", unfollowed := true, recurses := true, apart := false }
def FnExactFirstMinuteWithSaid : Prop := fnExactFirstMinuteWithRow.holds Try.pinned (OpenSpec.ofChange fnExactFirstMinuteWithSpec)

/-- ITS FALSE NEIGHBOUR: 'it returns false'. Refute it at one input. -/
def fnExactFirstMinuteWithWrong : ChangeSpec := { name := "fnExactFirstMinuteWith", fn := fun _ => fun
  | [d1, d2, d3] => { results := [.lit (.bool false)], args := [d1, d2, d3] }
  | _ => none }
def FnExactFirstMinuteWithWrongFalsely : Prop := fnExactFirstMinuteWithRow.holds Try.pinned (OpenSpec.ofChange fnExactFirstMinuteWithWrong)

/-- 'laws.FnExactMeanDepth': WHATEVER THE INPUT: true; the input reads as it did. -/
def fnExactMeanDepthSpec : ChangeSpec := { name := "fnExactMeanDepth", fn := fun _ => fun
  | [d] => { results := [.lit (.bool true)], args := [d] }
  | _ => none }
def fnExactMeanDepthRow : OpenClaim := { program := "ytdmnkmdlochogaa", sum := "0ca028302533da8d718b2ef16867b59c674cddcf4f47c33eae1fbe411f9e7044", func := "loop.example/g01031/laws.FnExactMeanDepth", spec := "fnExactMeanDepth", apart := false }
def FnExactMeanDepthSaid : Prop := fnExactMeanDepthRow.holds Try.pinned (OpenSpec.ofChange fnExactMeanDepthSpec)

/-- ITS FALSE NEIGHBOUR: 'it returns false'. Refute it at one input. -/
def fnExactMeanDepthWrong : ChangeSpec := { name := "fnExactMeanDepth", fn := fun _ => fun
  | [d] => { results := [.lit (.bool false)], args := [d] }
  | _ => none }
def FnExactMeanDepthWrongFalsely : Prop := fnExactMeanDepthRow.holds Try.pinned (OpenSpec.ofChange fnExactMeanDepthWrong)

/- THE SECOND FORM. 'bulk': how many values and letters a reading holds, each counted each time it is reached (what is shared counts as often as it is met; a slice's spare places count too). A statement '..UptoSaid' is the law's where the arguments, and the package variables that the reading takes, are together of bulk at most 1048576: NARROWER than '..Said'. Prove '..Said' where nothing that the law and all that it calls make is longer than what came in: it says more and counts as full. Else prove '..UptoSaid'. A law counts once. -/
mutual
def uptoBulk {H : Type} : DataW H → Nat
  | .lit (.string bytes) => bytes.length + 1
  | .lit _ => 1
  | .nil => 1
  | .ptr d => uptoBulk d + 1
  | .slice elems spare => uptoBulkAll elems + uptoBulkAll spare + 1
  | .agg parts => uptoBulkAll parts + 1
  | .iface _ d => uptoBulk d + 1
  | .map entries => uptoBulkEntries entries + 1
  | .held _ => 1
def uptoBulkAll {H : Type} : List (DataW H) → Nat
  | [] => 0
  | d :: r => uptoBulk d + uptoBulkAll r
def uptoBulkEntries {H : Type} : List (Lit × DataW H) → Nat
  | [] => 0
  | x :: r => uptoBulkEntry x + uptoBulkEntries r
def uptoBulkEntry {H : Type} : Lit × DataW H → Nat
  | (.string bytes, d) => bytes.length + uptoBulk d + 1
  | (_, d) => uptoBulk d + 1
 end
def uptoSmall : (H : Type) → List (DataW H) → Bool := fun _ ds => decide (uptoBulkAll ds ≤ 1048576)
def OpenSpec.upto (s : _root_.Go.ChangeSpec) : _root_.Go.OpenSpec := { _root_.Go.OpenSpec.ofChange s with cond := some uptoSmall }

/-- 'laws.FnLevels', WHERE WHAT IT READS IS OF BULK AT MOST 1048576: true; the input reads as it did. -/
def fnLevelsUptoRow : OpenClaim := { program := "ytdmnkmdlochogaa", sum := "0ca028302533da8d718b2ef16867b59c674cddcf4f47c33eae1fbe411f9e7044", func := "loop.example/g01031/laws.FnLevels", spec := "fnLevels", unfollowed := true, recurses := true, apart := false, narrowed := true }
def FnLevelsUptoSaid : Prop := fnLevelsUptoRow.holds Try.pinned (OpenSpec.upto fnLevelsSpec)

/-- 'laws.FnTideLevels', WHERE WHAT IT READS IS OF BULK AT MOST 1048576: true; the input reads as it did. -/
def fnTideLevelsUptoRow : OpenClaim := { program := "ytdmnkmdlochogaa", sum := "0ca028302533da8d718b2ef16867b59c674cddcf4f47c33eae1fbe411f9e7044", func := "loop.example/g01031/laws.FnTideLevels", spec := "fnTideLevels", unfollowed := true, recurses := true, apart := false, narrowed := true }
def FnTideLevelsUptoSaid : Prop := fnTideLevelsUptoRow.holds Try.pinned (OpenSpec.upto fnTideLevelsSpec)

/-- 'laws.FnHighWaters', WHERE WHAT IT READS IS OF BULK AT MOST 1048576: true; the input reads as it did. -/
def fnHighWatersUptoRow : OpenClaim := { program := "ytdmnkmdlochogaa", sum := "0ca028302533da8d718b2ef16867b59c674cddcf4f47c33eae1fbe411f9e7044", func := "loop.example/g01031/laws.FnHighWaters", spec := "fnHighWaters", unfollowed := true, recurses := true, apart := false, narrowed := true }
def FnHighWatersUptoSaid : Prop := fnHighWatersUptoRow.holds Try.pinned (OpenSpec.upto fnHighWatersSpec)

/-- 'laws.FnSupport', WHERE WHAT IT READS IS OF BULK AT MOST 1048576: true; the input reads as it did. -/
def fnSupportUptoRow : OpenClaim := { program := "ytdmnkmdlochogaa", sum := "0ca028302533da8d718b2ef16867b59c674cddcf4f47c33eae1fbe411f9e7044", func := "loop.example/g01031/laws.FnSupport", spec := "fnSupport", unfollowed := true, recurses := true, apart := false, narrowed := true }
def FnSupportUptoSaid : Prop := fnSupportUptoRow.holds Try.pinned (OpenSpec.upto fnSupportSpec)

/-- 'laws.FnExactZeroError', WHERE WHAT IT READS IS OF BULK AT MOST 1048576: true; the input reads as it did. -/
def fnExactZeroErrorUptoRow : OpenClaim := { program := "ytdmnkmdlochogaa", sum := "0ca028302533da8d718b2ef16867b59c674cddcf4f47c33eae1fbe411f9e7044", func := "loop.example/g01031/laws.FnExactZeroError", spec := "fnExactZeroError", unfollowed := true, recurses := true, apart := false, narrowed := true }
def FnExactZeroErrorUptoSaid : Prop := fnExactZeroErrorUptoRow.holds Try.pinned (OpenSpec.upto fnExactZeroErrorSpec)

/-- 'laws.FnExactLevelAt', WHERE WHAT IT READS IS OF BULK AT MOST 1048576: true; the input reads as it did. -/
def fnExactLevelAtUptoRow : OpenClaim := { program := "ytdmnkmdlochogaa", sum := "0ca028302533da8d718b2ef16867b59c674cddcf4f47c33eae1fbe411f9e7044", func := "loop.example/g01031/laws.FnExactLevelAt", spec := "fnExactLevelAt", unfollowed := true, recurses := true, apart := false, narrowed := true }
def FnExactLevelAtUptoSaid : Prop := fnExactLevelAtUptoRow.holds Try.pinned (OpenSpec.upto fnExactLevelAtSpec)

/-- 'laws.FnExactReducedDepth', WHERE WHAT IT READS IS OF BULK AT MOST 1048576: true; the input reads as it did. -/
def fnExactReducedDepthUptoRow : OpenClaim := { program := "ytdmnkmdlochogaa", sum := "0ca028302533da8d718b2ef16867b59c674cddcf4f47c33eae1fbe411f9e7044", func := "loop.example/g01031/laws.FnExactReducedDepth", spec := "fnExactReducedDepth", unfollowed := true, recurses := true, apart := false, narrowed := true }
def FnExactReducedDepthUptoSaid : Prop := fnExactReducedDepthUptoRow.holds Try.pinned (OpenSpec.upto fnExactReducedDepthSpec)

/-- 'laws.FnExactLevelBetween', WHERE WHAT IT READS IS OF BULK AT MOST 1048576: true; the input reads as it did. -/
def fnExactLevelBetweenUptoRow : OpenClaim := { program := "ytdmnkmdlochogaa", sum := "0ca028302533da8d718b2ef16867b59c674cddcf4f47c33eae1fbe411f9e7044", func := "loop.example/g01031/laws.FnExactLevelBetween", spec := "fnExactLevelBetween", unfollowed := true, recurses := true, apart := false, narrowed := true }
def FnExactLevelBetweenUptoSaid : Prop := fnExactLevelBetweenUptoRow.holds Try.pinned (OpenSpec.upto fnExactLevelBetweenSpec)

/-- 'laws.FnExactHighestLevel', WHERE WHAT IT READS IS OF BULK AT MOST 1048576: true; the input reads as it did. -/
def fnExactHighestLevelUptoRow : OpenClaim := { program := "ytdmnkmdlochogaa", sum := "0ca028302533da8d718b2ef16867b59c674cddcf4f47c33eae1fbe411f9e7044", func := "loop.example/g01031/laws.FnExactHighestLevel", spec := "fnExactHighestLevel", unfollowed := true, recurses := true, apart := false, narrowed := true }
def FnExactHighestLevelUptoSaid : Prop := fnExactHighestLevelUptoRow.holds Try.pinned (OpenSpec.upto fnExactHighestLevelSpec)

/-- 'laws.FnExactMinutesWith', WHERE WHAT IT READS IS OF BULK AT MOST 1048576: true; the input reads as it did. -/
def fnExactMinutesWithUptoRow : OpenClaim := { program := "ytdmnkmdlochogaa", sum := "0ca028302533da8d718b2ef16867b59c674cddcf4f47c33eae1fbe411f9e7044", func := "loop.example/g01031/laws.FnExactMinutesWith", spec := "fnExactMinutesWith", unfollowed := true, recurses := true, apart := false, narrowed := true }
def FnExactMinutesWithUptoSaid : Prop := fnExactMinutesWithUptoRow.holds Try.pinned (OpenSpec.upto fnExactMinutesWithSpec)

/-- 'laws.FnExactFirstMinuteWith', WHERE WHAT IT READS IS OF BULK AT MOST 1048576: true; the input reads as it did. -/
def fnExactFirstMinuteWithUptoRow : OpenClaim := { program := "ytdmnkmdlochogaa", sum := "0ca028302533da8d718b2ef16867b59c674cddcf4f47c33eae1fbe411f9e7044", func := "loop.example/g01031/laws.FnExactFirstMinuteWith", spec := "fnExactFirstMinuteWith", unfollowed := true, recurses := true, apart := false, narrowed := true }
def FnExactFirstMinuteWithUptoSaid : Prop := fnExactFirstMinuteWithUptoRow.holds Try.pinned (OpenSpec.upto fnExactFirstMinuteWithSpec)

/-- 'laws.FnExactMeanDepth', WHERE WHAT IT READS IS OF BULK AT MOST 1048576: true; the input reads as it did. -/
def fnExactMeanDepthUptoRow : OpenClaim := { program := "ytdmnkmdlochogaa", sum := "0ca028302533da8d718b2ef16867b59c674cddcf4f47c33eae1fbe411f9e7044", func := "loop.example/g01031/laws.FnExactMeanDepth", spec := "fnExactMeanDepth", apart := false, narrowed := true }
def FnExactMeanDepthUptoSaid : Prop := fnExactMeanDepthUptoRow.holds Try.pinned (OpenSpec.upto fnExactMeanDepthSpec)

end Rows
end Go.Proofs.Ytdmnkmdlochogaa
