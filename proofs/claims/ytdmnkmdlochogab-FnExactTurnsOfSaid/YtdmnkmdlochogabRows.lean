/-
  No cell of these rows narrows 'for every input' (looked for: loops, veiled, ifaces, maps, wideKeys, modest, calm, conditions, laid).
  DERIVED. THE GIVEN ROWS OF THIS SEAT. 11 by the template 'for every input the law returns true; each argument reads behind the call as it read before'; 0 by the template 'total and deterministic' (their statements: YtdmnkmdlochogabTotals.lean).
  GIVEN WITH THE SEED: the statements are not yours to turn. If you find one false, say at which input.
  Laid BY PROGRAM, IN A SANDBOX (cutbox-rows.mjs): the forced cells as the released guide's own fill.sh prints them over the translation 73ea13b2e5004c0b… (all of the seat's roots in one cut). By AI agents, Wed Nov 11 2026. No macro, syntax, notation, axiom, sorry.
-/
import Derived.Test.YtdmnkmdlochogabChecked
import GoSem.Claim
import GoSem.ClaimJoined
import GoSem.ClaimMapViews
import Derived.JoinedTies
import Derived.KernelRfl
namespace Go.Proofs.Ytdmnkmdlochogab
/- THE CELL 'sum', in the pinned program and in every row, IS THE sha256 OF THE DUMP (.gsa) THAT YtdmnkmdlochogabProg.lean LOADS. Nothing in Lean hashes anything: it is a label: what it is worth is what the hold of that sum in a sandbox is worth. -/
noncomputable def Try.pinned : Pinned := { name := "ytdmnkmdlochogab", sum := "73ea13b2e5004c0bdbb5d9fe39e7189d9a98e56c79540f2c28fe4505cf668e35", checked := Try.checked }
namespace Rows
def none {H : Type} : Left H := { results := [], args := [] }

/-- 'laws.FnLinePlans': WHATEVER THE INPUT: true; the input reads as it did. -/
def fnLinePlansSpec : ChangeSpec := { name := "fnLinePlans", fn := fun _ => fun
  | [d] => { results := [.lit (.bool true)], args := [d] }
  | _ => none }
def fnLinePlansRow : OpenClaim := { program := "ytdmnkmdlochogab", sum := "73ea13b2e5004c0bdbb5d9fe39e7189d9a98e56c79540f2c28fe4505cf668e35", func := "loop.example/g01031/laws.FnLinePlans", spec := "fnLinePlans", unfollowed := true, recurses := true, apart := false }
def FnLinePlansSaid : Prop := fnLinePlansRow.holds Try.pinned (OpenSpec.ofChange fnLinePlansSpec)

/-- ITS FALSE NEIGHBOUR: 'it returns false'. Refute it at one input. -/
def fnLinePlansWrong : ChangeSpec := { name := "fnLinePlans", fn := fun _ => fun
  | [d] => { results := [.lit (.bool false)], args := [d] }
  | _ => none }
def FnLinePlansWrongFalsely : Prop := fnLinePlansRow.holds Try.pinned (OpenSpec.ofChange fnLinePlansWrong)

/-- 'laws.FnRays': WHATEVER THE INPUT: true; the input reads as it did. -/
def fnRaysSpec : ChangeSpec := { name := "fnRays", fn := fun _ => fun
  | [d] => { results := [.lit (.bool true)], args := [d] }
  | _ => none }
def fnRaysRow : OpenClaim := { program := "ytdmnkmdlochogab", sum := "73ea13b2e5004c0bdbb5d9fe39e7189d9a98e56c79540f2c28fe4505cf668e35", func := "loop.example/g01031/laws.FnRays", spec := "fnRays", recurses := true, apart := false }
def FnRaysSaid : Prop := fnRaysRow.holds Try.pinned (OpenSpec.ofChange fnRaysSpec)

/-- ITS FALSE NEIGHBOUR: 'it returns false'. Refute it at one input. -/
def fnRaysWrong : ChangeSpec := { name := "fnRays", fn := fun _ => fun
  | [d] => { results := [.lit (.bool false)], args := [d] }
  | _ => none }
def FnRaysWrongFalsely : Prop := fnRaysRow.holds Try.pinned (OpenSpec.ofChange fnRaysWrong)

/-- 'laws.FnDownTimes': WHATEVER THE INPUT: true; the input reads as it did. -/
def fnDownTimesSpec : ChangeSpec := { name := "fnDownTimes", fn := fun _ => fun
  | [d] => { results := [.lit (.bool true)], args := [d] }
  | _ => none }
def fnDownTimesRow : OpenClaim := { program := "ytdmnkmdlochogab", sum := "73ea13b2e5004c0bdbb5d9fe39e7189d9a98e56c79540f2c28fe4505cf668e35", func := "loop.example/g01031/laws.FnDownTimes", spec := "fnDownTimes", recurses := true, apart := false }
def FnDownTimesSaid : Prop := fnDownTimesRow.holds Try.pinned (OpenSpec.ofChange fnDownTimesSpec)

/-- ITS FALSE NEIGHBOUR: 'it returns false'. Refute it at one input. -/
def fnDownTimesWrong : ChangeSpec := { name := "fnDownTimes", fn := fun _ => fun
  | [d] => { results := [.lit (.bool false)], args := [d] }
  | _ => none }
def FnDownTimesWrongFalsely : Prop := fnDownTimesRow.holds Try.pinned (OpenSpec.ofChange fnDownTimesWrong)

/-- 'laws.FnSpeeds': WHATEVER THE INPUT: true; the input reads as it did. -/
def fnSpeedsSpec : ChangeSpec := { name := "fnSpeeds", fn := fun _ => fun
  | [d] => { results := [.lit (.bool true)], args := [d] }
  | _ => none }
def fnSpeedsRow : OpenClaim := { program := "ytdmnkmdlochogab", sum := "73ea13b2e5004c0bdbb5d9fe39e7189d9a98e56c79540f2c28fe4505cf668e35", func := "loop.example/g01031/laws.FnSpeeds", spec := "fnSpeeds", unfollowed := true, recurses := true, apart := false }
def FnSpeedsSaid : Prop := fnSpeedsRow.holds Try.pinned (OpenSpec.ofChange fnSpeedsSpec)

/-- ITS FALSE NEIGHBOUR: 'it returns false'. Refute it at one input. -/
def fnSpeedsWrong : ChangeSpec := { name := "fnSpeeds", fn := fun _ => fun
  | [d] => { results := [.lit (.bool false)], args := [d] }
  | _ => none }
def FnSpeedsWrongFalsely : Prop := fnSpeedsRow.holds Try.pinned (OpenSpec.ofChange fnSpeedsWrong)

/-- 'laws.FnExactSlopeIn': WHATEVER THE INPUT: true; the input reads as it did. -/
def fnExactSlopeInSpec : ChangeSpec := { name := "fnExactSlopeIn", fn := fun _ => fun
  | [d1, d2, d3, d4] => { results := [.lit (.bool true)], args := [d1, d2, d3, d4] }
  | _ => none }
def fnExactSlopeInRow : OpenClaim := { program := "ytdmnkmdlochogab", sum := "73ea13b2e5004c0bdbb5d9fe39e7189d9a98e56c79540f2c28fe4505cf668e35", func := "loop.example/g01031/laws.FnExactSlopeIn", spec := "fnExactSlopeIn", apart := false }
def FnExactSlopeInSaid : Prop := fnExactSlopeInRow.holds Try.pinned (OpenSpec.ofChange fnExactSlopeInSpec)

/-- ITS FALSE NEIGHBOUR: 'it returns false'. Refute it at one input. -/
def fnExactSlopeInWrong : ChangeSpec := { name := "fnExactSlopeIn", fn := fun _ => fun
  | [d1, d2, d3, d4] => { results := [.lit (.bool false)], args := [d1, d2, d3, d4] }
  | _ => none }
def FnExactSlopeInWrongFalsely : Prop := fnExactSlopeInRow.holds Try.pinned (OpenSpec.ofChange fnExactSlopeInWrong)

/-- 'laws.FnExactRunTo': WHATEVER THE INPUT: true; the input reads as it did. -/
def fnExactRunToSpec : ChangeSpec := { name := "fnExactRunTo", fn := fun _ => fun
  | [d1, d2, d3, d4] => { results := [.lit (.bool true)], args := [d1, d2, d3, d4] }
  | _ => none }
def fnExactRunToRow : OpenClaim := { program := "ytdmnkmdlochogab", sum := "73ea13b2e5004c0bdbb5d9fe39e7189d9a98e56c79540f2c28fe4505cf668e35", func := "loop.example/g01031/laws.FnExactRunTo", spec := "fnExactRunTo", recurses := true, apart := false }
def FnExactRunToSaid : Prop := fnExactRunToRow.holds Try.pinned (OpenSpec.ofChange fnExactRunToSpec)

/-- ITS FALSE NEIGHBOUR: 'it returns false'. Refute it at one input. -/
def fnExactRunToWrong : ChangeSpec := { name := "fnExactRunTo", fn := fun _ => fun
  | [d1, d2, d3, d4] => { results := [.lit (.bool false)], args := [d1, d2, d3, d4] }
  | _ => none }
def FnExactRunToWrongFalsely : Prop := fnExactRunToRow.holds Try.pinned (OpenSpec.ofChange fnExactRunToWrong)

/-- 'laws.FnExactSlopeFor': WHATEVER THE INPUT: true; the input reads as it did. -/
def fnExactSlopeForSpec : ChangeSpec := { name := "fnExactSlopeFor", fn := fun _ => fun
  | [d1, d2] => { results := [.lit (.bool true)], args := [d1, d2] }
  | _ => none }
def fnExactSlopeForRow : OpenClaim := { program := "ytdmnkmdlochogab", sum := "73ea13b2e5004c0bdbb5d9fe39e7189d9a98e56c79540f2c28fe4505cf668e35", func := "loop.example/g01031/laws.FnExactSlopeFor", spec := "fnExactSlopeFor", recurses := true, apart := false }
def FnExactSlopeForSaid : Prop := fnExactSlopeForRow.holds Try.pinned (OpenSpec.ofChange fnExactSlopeForSpec)

/-- ITS FALSE NEIGHBOUR: 'it returns false'. Refute it at one input. -/
def fnExactSlopeForWrong : ChangeSpec := { name := "fnExactSlopeFor", fn := fun _ => fun
  | [d1, d2] => { results := [.lit (.bool false)], args := [d1, d2] }
  | _ => none }
def FnExactSlopeForWrongFalsely : Prop := fnExactSlopeForRow.holds Try.pinned (OpenSpec.ofChange fnExactSlopeForWrong)

/-- 'laws.FnExactDownTime': WHATEVER THE INPUT: true; the input reads as it did. -/
def fnExactDownTimeSpec : ChangeSpec := { name := "fnExactDownTime", fn := fun _ => fun
  | [d1, d2] => { results := [.lit (.bool true)], args := [d1, d2] }
  | _ => none }
def fnExactDownTimeRow : OpenClaim := { program := "ytdmnkmdlochogab", sum := "73ea13b2e5004c0bdbb5d9fe39e7189d9a98e56c79540f2c28fe4505cf668e35", func := "loop.example/g01031/laws.FnExactDownTime", spec := "fnExactDownTime", recurses := true, apart := false }
def FnExactDownTimeSaid : Prop := fnExactDownTimeRow.holds Try.pinned (OpenSpec.ofChange fnExactDownTimeSpec)

/-- ITS FALSE NEIGHBOUR: 'it returns false'. Refute it at one input. -/
def fnExactDownTimeWrong : ChangeSpec := { name := "fnExactDownTime", fn := fun _ => fun
  | [d1, d2] => { results := [.lit (.bool false)], args := [d1, d2] }
  | _ => none }
def FnExactDownTimeWrongFalsely : Prop := fnExactDownTimeRow.holds Try.pinned (OpenSpec.ofChange fnExactDownTimeWrong)

/-- 'laws.FnExactDepthAfter': WHATEVER THE INPUT: true; the input reads as it did. -/
def fnExactDepthAfterSpec : ChangeSpec := { name := "fnExactDepthAfter", fn := fun _ => fun
  | [d1, d2] => { results := [.lit (.bool true)], args := [d1, d2] }
  | _ => none }
def fnExactDepthAfterRow : OpenClaim := { program := "ytdmnkmdlochogab", sum := "73ea13b2e5004c0bdbb5d9fe39e7189d9a98e56c79540f2c28fe4505cf668e35", func := "loop.example/g01031/laws.FnExactDepthAfter", spec := "fnExactDepthAfter", recurses := true, apart := false }
def FnExactDepthAfterSaid : Prop := fnExactDepthAfterRow.holds Try.pinned (OpenSpec.ofChange fnExactDepthAfterSpec)

/-- ITS FALSE NEIGHBOUR: 'it returns false'. Refute it at one input. -/
def fnExactDepthAfterWrong : ChangeSpec := { name := "fnExactDepthAfter", fn := fun _ => fun
  | [d1, d2] => { results := [.lit (.bool false)], args := [d1, d2] }
  | _ => none }
def FnExactDepthAfterWrongFalsely : Prop := fnExactDepthAfterRow.holds Try.pinned (OpenSpec.ofChange fnExactDepthAfterWrong)

/-- 'laws.FnExactMeanSpeed': WHATEVER THE INPUT: true; the input reads as it did. -/
def fnExactMeanSpeedSpec : ChangeSpec := { name := "fnExactMeanSpeed", fn := fun _ => fun
  | [d1, d2] => { results := [.lit (.bool true)], args := [d1, d2] }
  | _ => none }
def fnExactMeanSpeedRow : OpenClaim := { program := "ytdmnkmdlochogab", sum := "73ea13b2e5004c0bdbb5d9fe39e7189d9a98e56c79540f2c28fe4505cf668e35", func := "loop.example/g01031/laws.FnExactMeanSpeed", spec := "fnExactMeanSpeed", unfollowed := true, recurses := true, apart := false }
def FnExactMeanSpeedSaid : Prop := fnExactMeanSpeedRow.holds Try.pinned (OpenSpec.ofChange fnExactMeanSpeedSpec)

/-- ITS FALSE NEIGHBOUR: 'it returns false'. Refute it at one input. -/
def fnExactMeanSpeedWrong : ChangeSpec := { name := "fnExactMeanSpeed", fn := fun _ => fun
  | [d1, d2] => { results := [.lit (.bool false)], args := [d1, d2] }
  | _ => none }
def FnExactMeanSpeedWrongFalsely : Prop := fnExactMeanSpeedRow.holds Try.pinned (OpenSpec.ofChange fnExactMeanSpeedWrong)

/-- 'laws.FnExactTurnsOf': WHATEVER THE INPUT: true; the input reads as it did. -/
def fnExactTurnsOfSpec : ChangeSpec := { name := "fnExactTurnsOf", fn := fun _ => fun
  | [d] => { results := [.lit (.bool true)], args := [d] }
  | _ => none }
def fnExactTurnsOfRow : OpenClaim := { program := "ytdmnkmdlochogab", sum := "73ea13b2e5004c0bdbb5d9fe39e7189d9a98e56c79540f2c28fe4505cf668e35", func := "loop.example/g01031/laws.FnExactTurnsOf", spec := "fnExactTurnsOf", unfollowed := true, recurses := true, apart := false }
def FnExactTurnsOfSaid : Prop := fnExactTurnsOfRow.holds Try.pinned (OpenSpec.ofChange fnExactTurnsOfSpec)

/-- ITS FALSE NEIGHBOUR: 'it returns false'. Refute it at one input. -/
def fnExactTurnsOfWrong : ChangeSpec := { name := "fnExactTurnsOf", fn := fun _ => fun
  | [d] => { results := [.lit (.bool false)], args := [d] }
  | _ => none }
def FnExactTurnsOfWrongFalsely : Prop := fnExactTurnsOfRow.holds Try.pinned (OpenSpec.ofChange fnExactTurnsOfWrong)

/- THE SECOND FORM. 'bulk': how many values and letters a reading holds, each counted each time it is reached (what is shared counts as often as it is met; a slice's spare places count too). A statement '..UptoSaid' is the law's where the arguments, and the package variables that the reading takes, are together of bulk at most 1048576: NARROWER than '..Said'. Prove '..Said' where nothing that the law and all that it calls make is longer than what came in: it says more and counts as full. Else prove '..UptoSaid'. A law counts once. -/
mutual
def uptoBulk {H : Type} : DataW H → Nat
  | .lit (.string bytes) => bytes.length + 1
  | .lit _ => 1
  | .nil => 1
  | .ptr d => uptoBulk d + 1
  | .slice elems spare => uptoBulkAll elems + uptoBulkAll spare + 1
  | .agg parts => uptoBulkAll parts + 1
  | .iface _ d => uptoBulk d + 1
  | .map entries => uptoBulkEntries entries + 1
  | .held _ => 1
def uptoBulkAll {H : Type} : List (DataW H) → Nat
  | [] => 0
  | d :: r => uptoBulk d + uptoBulkAll r
def uptoBulkEntries {H : Type} : List (Lit × DataW H) → Nat
  | [] => 0
  | x :: r => uptoBulkEntry x + uptoBulkEntries r
def uptoBulkEntry {H : Type} : Lit × DataW H → Nat
  | (.string bytes, d) => bytes.length + uptoBulk d + 1
  | (_, d) => uptoBulk d + 1
 end
def uptoSmall : (H : Type) → List (DataW H) → Bool := fun _ ds => decide (uptoBulkAll ds ≤ 1048576)
def OpenSpec.upto (s : _root_.Go.ChangeSpec) : _root_.Go.OpenSpec := { _root_.Go.OpenSpec.ofChange s with cond := some uptoSmall }

/-- 'laws.FnLinePlans', WHERE WHAT IT READS IS OF BULK AT MOST 1048576: true; the input reads as it did. -/
def fnLinePlansUptoRow : OpenClaim := { program := "ytdmnkmdlochogab", sum := "73ea13b2e5004c0bdbb5d9fe39e7189d9a98e56c79540f2c28fe4505cf668e35", func := "loop.example/g01031/laws.FnLinePlans", spec := "fnLinePlans", unfollowed := true, recurses := true, apart := false, narrowed := true }
def FnLinePlansUptoSaid : Prop := fnLinePlansUptoRow.holds Try.pinned (OpenSpec.upto fnLinePlansSpec)

/-- 'laws.FnRays', WHERE WHAT IT READS IS OF BULK AT MOST 1048576: true; the input reads as it did. -/
def fnRaysUptoRow : OpenClaim := { program := "ytdmnkmdlochogab", sum := "73ea13b2e5004c0bdbb5d9fe39e7189d9a98e56c79540f2c28fe4505cf668e35", func := "loop.example/g01031/laws.FnRays", spec := "fnRays", recurses := true, apart := false, narrowed := true }
def FnRaysUptoSaid : Prop := fnRaysUptoRow.holds Try.pinned (OpenSpec.upto fnRaysSpec)

/-- 'laws.FnDownTimes', WHERE WHAT IT READS IS OF BULK AT MOST 1048576: true; the input reads as it did. -/
def fnDownTimesUptoRow : OpenClaim := { program := "ytdmnkmdlochogab", sum := "73ea13b2e5004c0bdbb5d9fe39e7189d9a98e56c79540f2c28fe4505cf668e35", func := "loop.example/g01031/laws.FnDownTimes", spec := "fnDownTimes", recurses := true, apart := false, narrowed := true }
def FnDownTimesUptoSaid : Prop := fnDownTimesUptoRow.holds Try.pinned (OpenSpec.upto fnDownTimesSpec)

/-- 'laws.FnSpeeds', WHERE WHAT IT READS IS OF BULK AT MOST 1048576: true; the input reads as it did. -/
def fnSpeedsUptoRow : OpenClaim := { program := "ytdmnkmdlochogab", sum := "73ea13b2e5004c0bdbb5d9fe39e7189d9a98e56c79540f2c28fe4505cf668e35", func := "loop.example/g01031/laws.FnSpeeds", spec := "fnSpeeds", unfollowed := true, recurses := true, apart := false, narrowed := true }
def FnSpeedsUptoSaid : Prop := fnSpeedsUptoRow.holds Try.pinned (OpenSpec.upto fnSpeedsSpec)

/-- 'laws.FnExactSlopeIn', WHERE WHAT IT READS IS OF BULK AT MOST 1048576: true; the input reads as it did. -/
def fnExactSlopeInUptoRow : OpenClaim := { program := "ytdmnkmdlochogab", sum := "73ea13b2e5004c0bdbb5d9fe39e7189d9a98e56c79540f2c28fe4505cf668e35", func := "loop.example/g01031/laws.FnExactSlopeIn", spec := "fnExactSlopeIn", apart := false, narrowed := true }
def FnExactSlopeInUptoSaid : Prop := fnExactSlopeInUptoRow.holds Try.pinned (OpenSpec.upto fnExactSlopeInSpec)

/-- 'laws.FnExactRunTo', WHERE WHAT IT READS IS OF BULK AT MOST 1048576: true; the input reads as it did. -/
def fnExactRunToUptoRow : OpenClaim := { program := "ytdmnkmdlochogab", sum := "73ea13b2e5004c0bdbb5d9fe39e7189d9a98e56c79540f2c28fe4505cf668e35", func := "loop.example/g01031/laws.FnExactRunTo", spec := "fnExactRunTo", recurses := true, apart := false, narrowed := true }
def FnExactRunToUptoSaid : Prop := fnExactRunToUptoRow.holds Try.pinned (OpenSpec.upto fnExactRunToSpec)

/-- 'laws.FnExactSlopeFor', WHERE WHAT IT READS IS OF BULK AT MOST 1048576: true; the input reads as it did. -/
def fnExactSlopeForUptoRow : OpenClaim := { program := "ytdmnkmdlochogab", sum := "73ea13b2e5004c0bdbb5d9fe39e7189d9a98e56c79540f2c28fe4505cf668e35", func := "loop.example/g01031/laws.FnExactSlopeFor", spec := "fnExactSlopeFor", recurses := true, apart := false, narrowed := true }
def FnExactSlopeForUptoSaid : Prop := fnExactSlopeForUptoRow.holds Try.pinned (OpenSpec.upto fnExactSlopeForSpec)

/-- 'laws.FnExactDownTime', WHERE WHAT IT READS IS OF BULK AT MOST 1048576: true; the input reads as it did. -/
def fnExactDownTimeUptoRow : OpenClaim := { program := "ytdmnkmdlochogab", sum := "73ea13b2e5004c0bdbb5d9fe39e7189d9a98e56c79540f2c28fe4505cf668e35", func := "loop.example/g01031/laws.FnExactDownTime", spec := "fnExactDownTime", recurses := true, apart := false, narrowed := true }
def FnExactDownTimeUptoSaid : Prop := fnExactDownTimeUptoRow.holds Try.pinned (OpenSpec.upto fnExactDownTimeSpec)

/-- 'laws.FnExactDepthAfter', WHERE WHAT IT READS IS OF BULK AT MOST 1048576: true; the input reads as it did. -/
def fnExactDepthAfterUptoRow : OpenClaim := { program := "ytdmnkmdlochogab", sum := "73ea13b2e5004c0bdbb5d9fe39e7189d9a98e56c79540f2c28fe4505cf668e35", func := "loop.example/g01031/laws.FnExactDepthAfter", spec := "fnExactDepthAfter", recurses := true, apart := false, narrowed := true }
def FnExactDepthAfterUptoSaid : Prop := fnExactDepthAfterUptoRow.holds Try.pinned (OpenSpec.upto fnExactDepthAfterSpec)

/-- 'laws.FnExactMeanSpeed', WHERE WHAT IT READS IS OF BULK AT MOST 1048576: true; the input reads as it did. -/
def fnExactMeanSpeedUptoRow : OpenClaim := { program := "ytdmnkmdlochogab", sum := "73ea13b2e5004c0bdbb5d9fe39e7189d9a98e56c79540f2c28fe4505cf668e35", func := "loop.example/g01031/laws.FnExactMeanSpeed", spec := "fnExactMeanSpeed", unfollowed := true, recurses := true, apart := false, narrowed := true }
def FnExactMeanSpeedUptoSaid : Prop := fnExactMeanSpeedUptoRow.holds Try.pinned (OpenSpec.upto fnExactMeanSpeedSpec)

/-- 'laws.FnExactTurnsOf', WHERE WHAT IT READS IS OF BULK AT MOST 1048576: true; the input reads as it did. -/
def fnExactTurnsOfUptoRow : OpenClaim := { program := "ytdmnkmdlochogab", sum := "73ea13b2e5004c0bdbb5d9fe39e7189d9a98e56c79540f2c28fe4505cf668e35", func := "loop.example/g01031/laws.FnExactTurnsOf", spec := "fnExactTurnsOf", unfollowed := true, recurses := true, apart := false, narrowed := true }
def FnExactTurnsOfUptoSaid : Prop := fnExactTurnsOfUptoRow.holds Try.pinned (OpenSpec.upto fnExactTurnsOfSpec)

end Rows
end Go.Proofs.Ytdmnkmdlochogab
