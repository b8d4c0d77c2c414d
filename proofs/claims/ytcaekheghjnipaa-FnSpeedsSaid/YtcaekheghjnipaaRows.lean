/-
  No cell of these rows narrows 'for every input' (looked for: loops, veiled, ifaces, maps, wideKeys, modest, calm, conditions, laid).
  DERIVED. THE GIVEN ROWS OF THIS SEAT. 12 by the template 'for every input the law returns true; each argument reads behind the call as it read before'; 0 by the template 'total and deterministic' (their statements: YtcaekheghjnipaaTotals.lean).
  GIVEN WITH THE SEED: the statements are not yours to turn. If you find one false, say at which input.
  Laid BY PROGRAM, IN A SANDBOX (cutbox-rows.mjs): the forced cells as the released guide's own fill.sh prints them over the translation f8c769c32ae31bf6… (all of the seat's roots in one cut). By AI agents, Wed Nov 11 2026. No macro, syntax, notation, axiom, sorry.
-/
import Derived.Test.YtcaekheghjnipaaChecked
import GoSem.Claim
import GoSem.ClaimJoined
import GoSem.ClaimMapViews
import Derived.JoinedTies
import Derived.KernelRfl
namespace Go.Proofs.Ytcaekheghjnipaa
/- THE CELL 'sum', in the pinned program and in every row, IS THE sha256 OF THE DUMP (.gsa) THAT YtcaekheghjnipaaProg.lean LOADS. Nothing in Lean hashes anything: it is a label: what it is worth is what the hold of that sum in a sandbox is worth. -/
noncomputable def Try.pinned : Pinned := { name := "ytcaekheghjnipaa", sum := "f8c769c32ae31bf65ef5609165b69db26d0e0c9226a6acdbfb0e9e8d822cdc83", checked := Try.checked }
namespace Rows
def none {H : Type} : Left H := { results := [], args := [] }

/-- 'laws.FnExactIsDirection': WHATEVER THE INPUT: true; the input reads as it did. -/
def fnExactIsDirectionSpec : ChangeSpec := { name := "fnExactIsDirection", fn := fun _ => fun
  | [d] => { results := [.lit (.bool true)], args := [d] }
  | _ => none }
def fnExactIsDirectionRow : OpenClaim := { program := "ytcaekheghjnipaa", sum := "f8c769c32ae31bf65ef5609165b69db26d0e0c9226a6acdbfb0e9e8d822cdc83", func := "loop.example/g00915/laws.FnExactIsDirection", spec := "fnExactIsDirection", plainKeys := false, apart := false }
def FnExactIsDirectionSaid : Prop := fnExactIsDirectionRow.holds Try.pinned (OpenSpec.ofChange fnExactIsDirectionSpec)

/-- ITS FALSE NEIGHBOUR: 'it returns false'. Refute it at one input. -/
def fnExactIsDirectionWrong : ChangeSpec := { name := "fnExactIsDirection", fn := fun _ => fun
  | [d] => { results := [.lit (.bool false)], args := [d] }
  | _ => none }
def FnExactIsDirectionWrongFalsely : Prop := fnExactIsDirectionRow.holds Try.pinned (OpenSpec.ofChange fnExactIsDirectionWrong)

/-- 'laws.FnExactMakeDirection': WHATEVER THE INPUT: true; the input reads as it did. -/
def fnExactMakeDirectionSpec : ChangeSpec := { name := "fnExactMakeDirection", fn := fun _ => fun
  | [d1, d2, d3] => { results := [.lit (.bool true)], args := [d1, d2, d3] }
  | _ => none }
def fnExactMakeDirectionRow : OpenClaim := { program := "ytcaekheghjnipaa", sum := "f8c769c32ae31bf65ef5609165b69db26d0e0c9226a6acdbfb0e9e8d822cdc83", func := "loop.example/g00915/laws.FnExactMakeDirection", spec := "fnExactMakeDirection", plainKeys := false, apart := false }
def FnExactMakeDirectionSaid : Prop := fnExactMakeDirectionRow.holds Try.pinned (OpenSpec.ofChange fnExactMakeDirectionSpec)

/-- ITS FALSE NEIGHBOUR: 'it returns false'. Refute it at one input. -/
def fnExactMakeDirectionWrong : ChangeSpec := { name := "fnExactMakeDirection", fn := fun _ => fun
  | [d1, d2, d3] => { results := [.lit (.bool false)], args := [d1, d2, d3] }
  | _ => none }
def FnExactMakeDirectionWrongFalsely : Prop := fnExactMakeDirectionRow.holds Try.pinned (OpenSpec.ofChange fnExactMakeDirectionWrong)

/-- 'laws.FnExactMirrorDirection': WHATEVER THE INPUT: true; the input reads as it did. -/
def fnExactMirrorDirectionSpec : ChangeSpec := { name := "fnExactMirrorDirection", fn := fun _ => fun
  | [d] => { results := [.lit (.bool true)], args := [d] }
  | _ => none }
def fnExactMirrorDirectionRow : OpenClaim := { program := "ytcaekheghjnipaa", sum := "f8c769c32ae31bf65ef5609165b69db26d0e0c9226a6acdbfb0e9e8d822cdc83", func := "loop.example/g00915/laws.FnExactMirrorDirection", spec := "fnExactMirrorDirection", plainKeys := false, apart := false }
def FnExactMirrorDirectionSaid : Prop := fnExactMirrorDirectionRow.holds Try.pinned (OpenSpec.ofChange fnExactMirrorDirectionSpec)

/-- ITS FALSE NEIGHBOUR: 'it returns false'. Refute it at one input. -/
def fnExactMirrorDirectionWrong : ChangeSpec := { name := "fnExactMirrorDirection", fn := fun _ => fun
  | [d] => { results := [.lit (.bool false)], args := [d] }
  | _ => none }
def FnExactMirrorDirectionWrongFalsely : Prop := fnExactMirrorDirectionRow.holds Try.pinned (OpenSpec.ofChange fnExactMirrorDirectionWrong)

/-- 'laws.FnExactCompareDirections': WHATEVER THE INPUT: true; the input reads as it did. -/
def fnExactCompareDirectionsSpec : ChangeSpec := { name := "fnExactCompareDirections", fn := fun _ => fun
  | [d1, d2] => { results := [.lit (.bool true)], args := [d1, d2] }
  | _ => none }
def fnExactCompareDirectionsRow : OpenClaim := { program := "ytcaekheghjnipaa", sum := "f8c769c32ae31bf65ef5609165b69db26d0e0c9226a6acdbfb0e9e8d822cdc83", func := "loop.example/g00915/laws.FnExactCompareDirections", spec := "fnExactCompareDirections", plainKeys := false, apart := false }
def FnExactCompareDirectionsSaid : Prop := fnExactCompareDirectionsRow.holds Try.pinned (OpenSpec.ofChange fnExactCompareDirectionsSpec)

/-- ITS FALSE NEIGHBOUR: 'it returns false'. Refute it at one input. -/
def fnExactCompareDirectionsWrong : ChangeSpec := { name := "fnExactCompareDirections", fn := fun _ => fun
  | [d1, d2] => { results := [.lit (.bool false)], args := [d1, d2] }
  | _ => none }
def FnExactCompareDirectionsWrongFalsely : Prop := fnExactCompareDirectionsRow.holds Try.pinned (OpenSpec.ofChange fnExactCompareDirectionsWrong)

/-- 'laws.FnExactCanCross': WHATEVER THE INPUT: true; the input reads as it did. -/
def fnExactCanCrossSpec : ChangeSpec := { name := "fnExactCanCross", fn := fun _ => fun
  | [d1, d2, d3, d4] => { results := [.lit (.bool true)], args := [d1, d2, d3, d4] }
  | _ => none }
def fnExactCanCrossRow : OpenClaim := { program := "ytcaekheghjnipaa", sum := "f8c769c32ae31bf65ef5609165b69db26d0e0c9226a6acdbfb0e9e8d822cdc83", func := "loop.example/g00915/laws.FnExactCanCross", spec := "fnExactCanCross", unfollowed := true, recurses := true, plainKeys := false, apart := false }
def FnExactCanCrossSaid : Prop := fnExactCanCrossRow.holds Try.pinned (OpenSpec.ofChange fnExactCanCrossSpec)

/-- ITS FALSE NEIGHBOUR: 'it returns false'. Refute it at one input. -/
def fnExactCanCrossWrong : ChangeSpec := { name := "fnExactCanCross", fn := fun _ => fun
  | [d1, d2, d3, d4] => { results := [.lit (.bool false)], args := [d1, d2, d3, d4] }
  | _ => none }
def FnExactCanCrossWrongFalsely : Prop := fnExactCanCrossRow.holds Try.pinned (OpenSpec.ofChange fnExactCanCrossWrong)

/-- 'laws.FnExactSineAt': WHATEVER THE INPUT: true; the input reads as it did. -/
def fnExactSineAtSpec : ChangeSpec := { name := "fnExactSineAt", fn := fun _ => fun
  | [d1, d2, d3, d4] => { results := [.lit (.bool true)], args := [d1, d2, d3, d4] }
  | _ => none }
def fnExactSineAtRow : OpenClaim := { program := "ytcaekheghjnipaa", sum := "f8c769c32ae31bf65ef5609165b69db26d0e0c9226a6acdbfb0e9e8d822cdc83", func := "loop.example/g00915/laws.FnExactSineAt", spec := "fnExactSineAt", unfollowed := true, recurses := true, plainKeys := false, apart := false }
def FnExactSineAtSaid : Prop := fnExactSineAtRow.holds Try.pinned (OpenSpec.ofChange fnExactSineAtSpec)

/-- ITS FALSE NEIGHBOUR: 'it returns false'. Refute it at one input. -/
def fnExactSineAtWrong : ChangeSpec := { name := "fnExactSineAt", fn := fun _ => fun
  | [d1, d2, d3, d4] => { results := [.lit (.bool false)], args := [d1, d2, d3, d4] }
  | _ => none }
def FnExactSineAtWrongFalsely : Prop := fnExactSineAtRow.holds Try.pinned (OpenSpec.ofChange fnExactSineAtWrong)

/-- 'laws.FnExactTurningSpeed': WHATEVER THE INPUT: true; the input reads as it did. -/
def fnExactTurningSpeedSpec : ChangeSpec := { name := "fnExactTurningSpeed", fn := fun _ => fun
  | [d1, d2, d3] => { results := [.lit (.bool true)], args := [d1, d2, d3] }
  | _ => none }
def fnExactTurningSpeedRow : OpenClaim := { program := "ytcaekheghjnipaa", sum := "f8c769c32ae31bf65ef5609165b69db26d0e0c9226a6acdbfb0e9e8d822cdc83", func := "loop.example/g00915/laws.FnExactTurningSpeed", spec := "fnExactTurningSpeed", unfollowed := true, recurses := true, plainKeys := false, apart := false }
def FnExactTurningSpeedSaid : Prop := fnExactTurningSpeedRow.holds Try.pinned (OpenSpec.ofChange fnExactTurningSpeedSpec)

/-- ITS FALSE NEIGHBOUR: 'it returns false'. Refute it at one input. -/
def fnExactTurningSpeedWrong : ChangeSpec := { name := "fnExactTurningSpeed", fn := fun _ => fun
  | [d1, d2, d3] => { results := [.lit (.bool false)], args := [d1, d2, d3] }
  | _ => none }
def FnExactTurningSpeedWrongFalsely : Prop := fnExactTurningSpeedRow.holds Try.pinned (OpenSpec.ofChange fnExactTurningSpeedWrong)

/-- 'laws.FnExactLayersOpen': WHATEVER THE INPUT: true; the input reads as it did. -/
def fnExactLayersOpenSpec : ChangeSpec := { name := "fnExactLayersOpen", fn := fun _ => fun
  | [d1, d2, d3] => { results := [.lit (.bool true)], args := [d1, d2, d3] }
  | _ => none }
def fnExactLayersOpenRow : OpenClaim := { program := "ytcaekheghjnipaa", sum := "f8c769c32ae31bf65ef5609165b69db26d0e0c9226a6acdbfb0e9e8d822cdc83", func := "loop.example/g00915/laws.FnExactLayersOpen", spec := "fnExactLayersOpen", unfollowed := true, recurses := true, plainKeys := false, apart := false }
def FnExactLayersOpenSaid : Prop := fnExactLayersOpenRow.holds Try.pinned (OpenSpec.ofChange fnExactLayersOpenSpec)

/-- ITS FALSE NEIGHBOUR: 'it returns false'. Refute it at one input. -/
def fnExactLayersOpenWrong : ChangeSpec := { name := "fnExactLayersOpen", fn := fun _ => fun
  | [d1, d2, d3] => { results := [.lit (.bool false)], args := [d1, d2, d3] }
  | _ => none }
def FnExactLayersOpenWrongFalsely : Prop := fnExactLayersOpenRow.holds Try.pinned (OpenSpec.ofChange fnExactLayersOpenWrong)

/-- 'laws.FnDirections': WHATEVER THE INPUT: true; the input reads as it did. -/
def fnDirectionsSpec : ChangeSpec := { name := "fnDirections", fn := fun _ => fun
  | [d] => { results := [.lit (.bool true)], args := [d] }
  | _ => none }
def fnDirectionsRow : OpenClaim := { program := "ytcaekheghjnipaa", sum := "f8c769c32ae31bf65ef5609165b69db26d0e0c9226a6acdbfb0e9e8d822cdc83", func := "loop.example/g00915/laws.FnDirections", spec := "fnDirections", plainKeys := false, apart := false }
def FnDirectionsSaid : Prop := fnDirectionsRow.holds Try.pinned (OpenSpec.ofChange fnDirectionsSpec)

/-- ITS FALSE NEIGHBOUR: 'it returns false'. Refute it at one input. -/
def fnDirectionsWrong : ChangeSpec := { name := "fnDirections", fn := fun _ => fun
  | [d] => { results := [.lit (.bool false)], args := [d] }
  | _ => none }
def FnDirectionsWrongFalsely : Prop := fnDirectionsRow.holds Try.pinned (OpenSpec.ofChange fnDirectionsWrong)

/-- 'laws.FnSines': WHATEVER THE INPUT: true; the input reads as it did. -/
def fnSinesSpec : ChangeSpec := { name := "fnSines", fn := fun _ => fun
  | [d] => { results := [.lit (.bool true)], args := [d] }
  | _ => none }
def fnSinesRow : OpenClaim := { program := "ytcaekheghjnipaa", sum := "f8c769c32ae31bf65ef5609165b69db26d0e0c9226a6acdbfb0e9e8d822cdc83", func := "loop.example/g00915/laws.FnSines", spec := "fnSines", unfollowed := true, recurses := true, plainKeys := false, apart := false }
def FnSinesSaid : Prop := fnSinesRow.holds Try.pinned (OpenSpec.ofChange fnSinesSpec)

/-- ITS FALSE NEIGHBOUR: 'it returns false'. Refute it at one input. -/
def fnSinesWrong : ChangeSpec := { name := "fnSines", fn := fun _ => fun
  | [d] => { results := [.lit (.bool false)], args := [d] }
  | _ => none }
def FnSinesWrongFalsely : Prop := fnSinesRow.holds Try.pinned (OpenSpec.ofChange fnSinesWrong)

/-- 'laws.FnTurningSpeeds': WHATEVER THE INPUT: true; the input reads as it did. -/
def fnTurningSpeedsSpec : ChangeSpec := { name := "fnTurningSpeeds", fn := fun _ => fun
  | [d] => { results := [.lit (.bool true)], args := [d] }
  | _ => none }
def fnTurningSpeedsRow : OpenClaim := { program := "ytcaekheghjnipaa", sum := "f8c769c32ae31bf65ef5609165b69db26d0e0c9226a6acdbfb0e9e8d822cdc83", func := "loop.example/g00915/laws.FnTurningSpeeds", spec := "fnTurningSpeeds", unfollowed := true, recurses := true, plainKeys := false, apart := false }
def FnTurningSpeedsSaid : Prop := fnTurningSpeedsRow.holds Try.pinned (OpenSpec.ofChange fnTurningSpeedsSpec)

/-- ITS FALSE NEIGHBOUR: 'it returns false'. Refute it at one input. -/
def fnTurningSpeedsWrong : ChangeSpec := { name := "fnTurningSpeeds", fn := fun _ => fun
  | [d] => { results := [.lit (.bool false)], args := [d] }
  | _ => none }
def FnTurningSpeedsWrongFalsely : Prop := fnTurningSpeedsRow.holds Try.pinned (OpenSpec.ofChange fnTurningSpeedsWrong)

/-- 'laws.FnSpeeds': WHATEVER THE INPUT: true; the input reads as it did. -/
def fnSpeedsSpec : ChangeSpec := { name := "fnSpeeds", fn := fun _ => fun
  | [d] => { results := [.lit (.bool true)], args := [d] }
  | _ => none }
def fnSpeedsRow : OpenClaim := { program := "ytcaekheghjnipaa", sum := "f8c769c32ae31bf65ef5609165b69db26d0e0c9226a6acdbfb0e9e8d822cdc83", func := "loop.example/g00915/laws.FnSpeeds", spec := "fnSpeeds", unfollowed := true, recurses := true, plainKeys := false, apart := false }
def FnSpeedsSaid : Prop := fnSpeedsRow.holds Try.pinned (OpenSpec.ofChange fnSpeedsSpec)

/-- ITS FALSE NEIGHBOUR: 'it returns false'. Refute it at one input. -/
def fnSpeedsWrong : ChangeSpec := { name := "fnSpeeds", fn := fun _ => fun
  | [d] => { results := [.lit (.bool false)], args := [d] }
  | _ => none }
def FnSpeedsWrongFalsely : Prop := fnSpeedsRow.holds Try.pinned (OpenSpec.ofChange fnSpeedsWrong)

/- THE SECOND FORM. 'bulk': how many values and letters a reading holds, each counted each time it is reached (what is shared counts as often as it is met; a slice's spare places count too). A statement '..UptoSaid' is the law's where the arguments, and the package variables that the reading takes, are together of bulk at most 1048576: NARROWER than '..Said'. Prove '..Said' where nothing that the law and all that it calls make is longer than what came in: it says more and counts as full. Else prove '..UptoSaid'. A law counts once. -/
mutual
def uptoBulk {H : Type} : DataW H → Nat
  | .lit (.string bytes) => bytes.length + 1
  | .lit _ => 1
  | .nil => 1
  | .ptr d => uptoBulk d + 1
  | .slice elems spare => uptoBulkAll elems + uptoBulkAll spare + 1
  | .agg parts => uptoBulkAll parts + 1
  | .iface _ d => uptoBulk d + 1
  | .map entries => uptoBulkEntries entries + 1
  | .held _ => 1
def uptoBulkAll {H : Type} : List (DataW H) → Nat
  | [] => 0
  | d :: r => uptoBulk d + uptoBulkAll r
def uptoBulkEntries {H : Type} : List (Lit × DataW H) → Nat
  | [] => 0
  | x :: r => uptoBulkEntry x + uptoBulkEntries r
def uptoBulkEntry {H : Type} : Lit × DataW H → Nat
  | (.string bytes, d) => bytes.length + uptoBulk d + 1
  | (_, d) => uptoBulk d + 1
 end
def uptoSmall : (H : Type) → List (DataW H) → Bool := fun _ ds => decide (uptoBulkAll ds ≤ 1048576)
def OpenSpec.upto (s : _root_.Go.ChangeSpec) : _root_.Go.OpenSpec := { _root_.Go.OpenSpec.ofChange s with cond := some uptoSmall }

/-- 'laws.FnExactIsDirection', WHERE WHAT IT READS IS OF BULK AT MOST 1048576: true; the input reads as it did. -/
def fnExactIsDirectionUptoRow : OpenClaim := { program := "ytcaekheghjnipaa", sum := "f8c769c32ae31bf65ef5609165b69db26d0e0c9226a6acdbfb0e9e8d822cdc83", func := "loop.example/g00915/laws.FnExactIsDirection", spec := "fnExactIsDirection", plainKeys := false, apart := false, narrowed := true }
def FnExactIsDirectionUptoSaid : Prop := fnExactIsDirectionUptoRow.holds Try.pinned (OpenSpec.upto fnExactIsDirectionSpec)

/-- 'laws.FnExactMakeDirection', WHERE WHAT IT READS IS OF BULK AT MOST 1048576: true; the input reads as it did. -/
def fnExactMakeDirectionUptoRow : OpenClaim := { program := "ytcaekheghjnipaa", sum := "f8c769c32ae31bf65ef5609165b69db26d0e0c9226a6acdbfb0e9e8d822cdc83", func := "loop.example/g00915/laws.FnExactMakeDirection", spec := "fnExactMakeDirection", plainKeys := false, apart := false, narrowed := true }
def FnExactMakeDirectionUptoSaid : Prop := fnExactMakeDirectionUptoRow.holds Try.pinned (OpenSpec.upto fnExactMakeDirectionSpec)

/-- 'laws.FnExactMirrorDirection', WHERE WHAT IT READS IS OF BULK AT MOST 1048576: true; the input reads as it did. -/
def fnExactMirrorDirectionUptoRow : OpenClaim := { program := "ytcaekheghjnipaa", sum := "f8c769c32ae31bf65ef5609165b69db26d0e0c9226a6acdbfb0e9e8d822cdc83", func := "loop.example/g00915/laws.FnExactMirrorDirection", spec := "fnExactMirrorDirection", plainKeys := false, apart := false, narrowed := true }
def FnExactMirrorDirectionUptoSaid : Prop := fnExactMirrorDirectionUptoRow.holds Try.pinned (OpenSpec.upto fnExactMirrorDirectionSpec)

/-- 'laws.FnExactCompareDirections', WHERE WHAT IT READS IS OF BULK AT MOST 1048576: true; the input reads as it did. -/
def fnExactCompareDirectionsUptoRow : OpenClaim := { program := "ytcaekheghjnipaa", sum := "f8c769c32ae31bf65ef5609165b69db26d0e0c9226a6acdbfb0e9e8d822cdc83", func := "loop.example/g00915/laws.FnExactCompareDirections", spec := "fnExactCompareDirections", plainKeys := false, apart := false, narrowed := true }
def FnExactCompareDirectionsUptoSaid : Prop := fnExactCompareDirectionsUptoRow.holds Try.pinned (OpenSpec.upto fnExactCompareDirectionsSpec)

/-- 'laws.FnExactCanCross', WHERE WHAT IT READS IS OF BULK AT MOST 1048576: true; the input reads as it did. -/
def fnExactCanCrossUptoRow : OpenClaim := { program := "ytcaekheghjnipaa", sum := "f8c769c32ae31bf65ef5609165b69db26d0e0c9226a6acdbfb0e9e8d822cdc83", func := "loop.example/g00915/laws.FnExactCanCross", spec := "fnExactCanCross", unfollowed := true, recurses := true, plainKeys := false, apart := false, narrowed := true }
def FnExactCanCrossUptoSaid : Prop := fnExactCanCrossUptoRow.holds Try.pinned (OpenSpec.upto fnExactCanCrossSpec)

/-- 'laws.FnExactSineAt', WHERE WHAT IT READS IS OF BULK AT MOST 1048576: true; the input reads as it did. -/
def fnExactSineAtUptoRow : OpenClaim := { program := "ytcaekheghjnipaa", sum := "f8c769c32ae31bf65ef5609165b69db26d0e0c9226a6acdbfb0e9e8d822cdc83", func := "loop.example/g00915/laws.FnExactSineAt", spec := "fnExactSineAt", unfollowed := true, recurses := true, plainKeys := false, apart := false, narrowed := true }
def FnExactSineAtUptoSaid : Prop := fnExactSineAtUptoRow.holds Try.pinned (OpenSpec.upto fnExactSineAtSpec)

/-- 'laws.FnExactTurningSpeed', WHERE WHAT IT READS IS OF BULK AT MOST 1048576: true; the input reads as it did. -/
def fnExactTurningSpeedUptoRow : OpenClaim := { program := "ytcaekheghjnipaa", sum := "f8c769c32ae31bf65ef5609165b69db26d0e0c9226a6acdbfb0e9e8d822cdc83", func := "loop.example/g00915/laws.FnExactTurningSpeed", spec := "fnExactTurningSpeed", unfollowed := true, recurses := true, plainKeys := false, apart := false, narrowed := true }
def FnExactTurningSpeedUptoSaid : Prop := fnExactTurningSpeedUptoRow.holds Try.pinned (OpenSpec.upto fnExactTurningSpeedSpec)

/-- 'laws.FnExactLayersOpen', WHERE WHAT IT READS IS OF BULK AT MOST 1048576: true; the input reads as it did. -/
def fnExactLayersOpenUptoRow : OpenClaim := { program := "ytcaekheghjnipaa", sum := "f8c769c32ae31bf65ef5609165b69db26d0e0c9226a6acdbfb0e9e8d822cdc83", func := "loop.example/g00915/laws.FnExactLayersOpen", spec := "fnExactLayersOpen", unfollowed := true, recurses := true, plainKeys := false, apart := false, narrowed := true }
def FnExactLayersOpenUptoSaid : Prop := fnExactLayersOpenUptoRow.holds Try.pinned (OpenSpec.upto fnExactLayersOpenSpec)

/-- 'laws.FnDirections', WHERE WHAT IT READS IS OF BULK AT MOST 1048576: true; the input reads as it did. -/
def fnDirectionsUptoRow : OpenClaim := { program := "ytcaekheghjnipaa", sum := "f8c769c32ae31bf65ef5609165b69db26d0e0c9226a6acdbfb0e9e8d822cdc83", func := "loop.example/g00915/laws.FnDirections", spec := "fnDirections", plainKeys := false, apart := false, narrowed := true }
def FnDirectionsUptoSaid : Prop := fnDirectionsUptoRow.holds Try.pinned (OpenSpec.upto fnDirectionsSpec)

/-- 'laws.FnSines', WHERE WHAT IT READS IS OF BULK AT MOST 1048576: true; the input reads as it did. -/
def fnSinesUptoRow : OpenClaim := { program := "ytcaekheghjnipaa", sum := "f8c769c32ae31bf65ef5609165b69db26d0e0c9226a6acdbfb0e9e8d822cdc83", func := "loop.example/g00915/laws.FnSines", spec := "fnSines", unfollowed := true, recurses := true, plainKeys := false, apart := false, narrowed := true }
def FnSinesUptoSaid : Prop := fnSinesUptoRow.holds Try.pinned (OpenSpec.upto fnSinesSpec)

/-- 'laws.FnTurningSpeeds', WHERE WHAT IT READS IS OF BULK AT MOST 1048576: true; the input reads as it did. -/
def fnTurningSpeedsUptoRow : OpenClaim := { program := "ytcaekheghjnipaa", sum := "f8c769c32ae31bf65ef5609165b69db26d0e0c9226a6acdbfb0e9e8d822cdc83", func := "loop.example/g00915/laws.FnTurningSpeeds", spec := "fnTurningSpeeds", unfollowed := true, recurses := true, plainKeys := false, apart := false, narrowed := true }
def FnTurningSpeedsUptoSaid : Prop := fnTurningSpeedsUptoRow.holds Try.pinned (OpenSpec.upto fnTurningSpeedsSpec)

/-- 'laws.FnSpeeds', WHERE WHAT IT READS IS OF BULK AT MOST 1048576: true; the input reads as it did. -/
def fnSpeedsUptoRow : OpenClaim := { program := "ytcaekheghjnipaa", sum := "f8c769c32ae31bf65ef5609165b69db26d0e0c9226a6acdbfb0e9e8d822cdc83", func := "loop.example/g00915/laws.FnSpeeds", spec := "fnSpeeds", unfollowed := true, recurses := true, plainKeys := false, apart := false, narrowed := true }
def FnSpeedsUptoSaid : Prop := fnSpeedsUptoRow.holds Try.pinned (OpenSpec.upto fnSpeedsSpec)

end Rows
end Go.Proofs.Ytcaekheghjnipaa
