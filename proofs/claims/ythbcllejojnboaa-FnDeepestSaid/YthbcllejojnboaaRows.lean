/-
  No cell of these rows narrows 'for every input' (looked for: loops, veiled, ifaces, maps, wideKeys, modest, calm, conditions, laid).
  DERIVED. THE GIVEN ROWS OF THIS SEAT. 11 by the template 'for every input the law returns true; each argument reads behind the call as it read before'; 0 by the template 'total and deterministic' (their statements: YthbcllejojnboaaTotals.lean).
  GIVEN WITH THE SEED: the statements are not yours to turn. If you find one false, say at which input.
  Laid BY PROGRAM, IN A SANDBOX (cutbox-rows.mjs): the forced cells as the released guide's own fill.sh prints them over the translation b3ded7d20c4b3fd0… (all of the seat's roots in one cut). By AI agents, Wed Nov 11 2026. No macro, syntax, notation, axiom, sorry.
-/
import Derived.Test.YthbcllejojnboaaChecked
import GoSem.Claim
import GoSem.ClaimJoined
import GoSem.ClaimMapViews
import Derived.JoinedTies
import Derived.KernelRfl
namespace Go.Proofs.Ythbcllejojnboaa
/- THE CELL 'sum', in the pinned program and in every row, IS THE sha256 OF THE DUMP (.gsa) THAT YthbcllejojnboaaProg.lean LOADS. Nothing in Lean hashes anything: it is a label: what it is worth is what the hold of that sum in a sandbox is worth. -/
noncomputable def Try.pinned : Pinned := { name := "ythbcllejojnboaa", sum := "b3ded7d20c4b3fd0be3c95923d9d1d4cbeb7a053869ed5eb4a0157487e82fcf0", checked := Try.checked }
namespace Rows
def none {H : Type} : Left H := { results := [], args := [] }

/-- 'laws.FnExactSumIntervals': WHATEVER THE INPUT: true; the input reads as it did. -/
def fnExactSumIntervalsSpec : ChangeSpec := { name := "fnExactSumIntervals", fn := fun _ => fun
  | [d] => { results := [.lit (.bool true)], args := [d] }
  | _ => none }
def fnExactSumIntervalsRow : OpenClaim := { program := "ythbcllejojnboaa", sum := "b3ded7d20c4b3fd0be3c95923d9d1d4cbeb7a053869ed5eb4a0157487e82fcf0", func := "loop.example/g00915/laws.FnExactSumIntervals", spec := "fnExactSumIntervals", plainKeys := false, apart := false }
def FnExactSumIntervalsSaid : Prop := fnExactSumIntervalsRow.holds Try.pinned (OpenSpec.ofChange fnExactSumIntervalsSpec)

/-- ITS FALSE NEIGHBOUR: 'it returns false'. Refute it at one input. -/
def fnExactSumIntervalsWrong : ChangeSpec := { name := "fnExactSumIntervals", fn := fun _ => fun
  | [d] => { results := [.lit (.bool false)], args := [d] }
  | _ => none }
def FnExactSumIntervalsWrongFalsely : Prop := fnExactSumIntervalsRow.holds Try.pinned (OpenSpec.ofChange fnExactSumIntervalsWrong)

/-- 'laws.FnIntervalSums': WHATEVER THE INPUT: true; the input reads as it did. -/
def fnIntervalSumsSpec : ChangeSpec := { name := "fnIntervalSums", fn := fun _ => fun
  | [d] => { results := [.lit (.bool true)], args := [d] }
  | _ => none }
def fnIntervalSumsRow : OpenClaim := { program := "ythbcllejojnboaa", sum := "b3ded7d20c4b3fd0be3c95923d9d1d4cbeb7a053869ed5eb4a0157487e82fcf0", func := "loop.example/g00915/laws.FnIntervalSums", spec := "fnIntervalSums", plainKeys := false, apart := false }
def FnIntervalSumsSaid : Prop := fnIntervalSumsRow.holds Try.pinned (OpenSpec.ofChange fnIntervalSumsSpec)

/-- ITS FALSE NEIGHBOUR: 'it returns false'. Refute it at one input. -/
def fnIntervalSumsWrong : ChangeSpec := { name := "fnIntervalSums", fn := fun _ => fun
  | [d] => { results := [.lit (.bool false)], args := [d] }
  | _ => none }
def FnIntervalSumsWrongFalsely : Prop := fnIntervalSumsRow.holds Try.pinned (OpenSpec.ofChange fnIntervalSumsWrong)

/-- 'laws.FnTraces': WHATEVER THE INPUT: true; the input reads as it did. -/
def fnTracesSpec : ChangeSpec := { name := "fnTraces", fn := fun _ => fun
  | [d] => { results := [.lit (.bool true)], args := [d] }
  | _ => none }
def fnTracesRow : OpenClaim := { program := "ythbcllejojnboaa", sum := "b3ded7d20c4b3fd0be3c95923d9d1d4cbeb7a053869ed5eb4a0157487e82fcf0", func := "loop.example/g00915/laws.FnTraces", spec := "fnTraces", unfollowed := true, recurses := true, plainKeys := false, apart := false }
def FnTracesSaid : Prop := fnTracesRow.holds Try.pinned (OpenSpec.ofChange fnTracesSpec)

/-- ITS FALSE NEIGHBOUR: 'it returns false'. Refute it at one input. -/
def fnTracesWrong : ChangeSpec := { name := "fnTraces", fn := fun _ => fun
  | [d] => { results := [.lit (.bool false)], args := [d] }
  | _ => none }
def FnTracesWrongFalsely : Prop := fnTracesRow.holds Try.pinned (OpenSpec.ofChange fnTracesWrong)

/-- 'laws.FnRaySteps': WHATEVER THE INPUT: true; the input reads as it did. -/
def fnRayStepsSpec : ChangeSpec := { name := "fnRaySteps", fn := fun _ => fun
  | [d] => { results := [.lit (.bool true)], args := [d] }
  | _ => none }
def fnRayStepsRow : OpenClaim := { program := "ythbcllejojnboaa", sum := "b3ded7d20c4b3fd0be3c95923d9d1d4cbeb7a053869ed5eb4a0157487e82fcf0", func := "loop.example/g00915/laws.FnRaySteps", spec := "fnRaySteps", unfollowed := true, recurses := true, plainKeys := false, apart := false }
def FnRayStepsSaid : Prop := fnRayStepsRow.holds Try.pinned (OpenSpec.ofChange fnRayStepsSpec)

/-- ITS FALSE NEIGHBOUR: 'it returns false'. Refute it at one input. -/
def fnRayStepsWrong : ChangeSpec := { name := "fnRaySteps", fn := fun _ => fun
  | [d] => { results := [.lit (.bool false)], args := [d] }
  | _ => none }
def FnRayStepsWrongFalsely : Prop := fnRayStepsRow.holds Try.pinned (OpenSpec.ofChange fnRayStepsWrong)

/-- 'laws.FnDeepest': WHATEVER THE INPUT: true; the input reads as it did. -/
def fnDeepestSpec : ChangeSpec := { name := "fnDeepest", fn := fun _ => fun
  | [d] => { results := [.lit (.bool true)], args := [d] }
  | _ => none }
def fnDeepestRow : OpenClaim := { program := "ythbcllejojnboaa", sum := "b3ded7d20c4b3fd0be3c95923d9d1d4cbeb7a053869ed5eb4a0157487e82fcf0", func := "loop.example/g00915/laws.FnDeepest", spec := "fnDeepest", unfollowed := true, recurses := true, plainKeys := false, apart := false }
def FnDeepestSaid : Prop := fnDeepestRow.holds Try.pinned (OpenSpec.ofChange fnDeepestSpec)

/-- ITS FALSE NEIGHBOUR: 'it returns false'. Refute it at one input. -/
def fnDeepestWrong : ChangeSpec := { name := "fnDeepest", fn := fun _ => fun
  | [d] => { results := [.lit (.bool false)], args := [d] }
  | _ => none }
def FnDeepestWrongFalsely : Prop := fnDeepestRow.holds Try.pinned (OpenSpec.ofChange fnDeepestWrong)

/-- 'laws.FnExactIsRayState': WHATEVER THE INPUT: true; the input reads as it did. -/
def fnExactIsRayStateSpec : ChangeSpec := { name := "fnExactIsRayState", fn := fun _ => fun
  | [d1, d2, d3, d4] => { results := [.lit (.bool true)], args := [d1, d2, d3, d4] }
  | _ => none }
def fnExactIsRayStateRow : OpenClaim := { program := "ythbcllejojnboaa", sum := "b3ded7d20c4b3fd0be3c95923d9d1d4cbeb7a053869ed5eb4a0157487e82fcf0", func := "loop.example/g00915/laws.FnExactIsRayState", spec := "fnExactIsRayState", unfollowed := true, recurses := true, plainKeys := false, apart := false }
def FnExactIsRayStateSaid : Prop := fnExactIsRayStateRow.holds Try.pinned (OpenSpec.ofChange fnExactIsRayStateSpec)

/-- ITS FALSE NEIGHBOUR: 'it returns false'. Refute it at one input. -/
def fnExactIsRayStateWrong : ChangeSpec := { name := "fnExactIsRayState", fn := fun _ => fun
  | [d1, d2, d3, d4] => { results := [.lit (.bool false)], args := [d1, d2, d3, d4] }
  | _ => none }
def FnExactIsRayStateWrongFalsely : Prop := fnExactIsRayStateRow.holds Try.pinned (OpenSpec.ofChange fnExactIsRayStateWrong)

/-- 'laws.FnExactFirstState': WHATEVER THE INPUT: true; the input reads as it did. -/
def fnExactFirstStateSpec : ChangeSpec := { name := "fnExactFirstState", fn := fun _ => fun
  | [d1, d2, d3] => { results := [.lit (.bool true)], args := [d1, d2, d3] }
  | _ => none }
def fnExactFirstStateRow : OpenClaim := { program := "ythbcllejojnboaa", sum := "b3ded7d20c4b3fd0be3c95923d9d1d4cbeb7a053869ed5eb4a0157487e82fcf0", func := "loop.example/g00915/laws.FnExactFirstState", spec := "fnExactFirstState", unfollowed := true, recurses := true, plainKeys := false, apart := false }
def FnExactFirstStateSaid : Prop := fnExactFirstStateRow.holds Try.pinned (OpenSpec.ofChange fnExactFirstStateSpec)

/-- ITS FALSE NEIGHBOUR: 'it returns false'. Refute it at one input. -/
def fnExactFirstStateWrong : ChangeSpec := { name := "fnExactFirstState", fn := fun _ => fun
  | [d1, d2, d3] => { results := [.lit (.bool false)], args := [d1, d2, d3] }
  | _ => none }
def FnExactFirstStateWrongFalsely : Prop := fnExactFirstStateRow.holds Try.pinned (OpenSpec.ofChange fnExactFirstStateWrong)

/-- 'laws.FnExactStepRay': WHATEVER THE INPUT: true; the input reads as it did. -/
def fnExactStepRaySpec : ChangeSpec := { name := "fnExactStepRay", fn := fun _ => fun
  | [d1, d2, d3, d4] => { results := [.lit (.bool true)], args := [d1, d2, d3, d4] }
  | _ => none }
def fnExactStepRayRow : OpenClaim := { program := "ythbcllejojnboaa", sum := "b3ded7d20c4b3fd0be3c95923d9d1d4cbeb7a053869ed5eb4a0157487e82fcf0", func := "loop.example/g00915/laws.FnExactStepRay", spec := "fnExactStepRay", unfollowed := true, recurses := true, plainKeys := false, apart := false }
def FnExactStepRaySaid : Prop := fnExactStepRayRow.holds Try.pinned (OpenSpec.ofChange fnExactStepRaySpec)

/-- ITS FALSE NEIGHBOUR: 'it returns false'. Refute it at one input. -/
def fnExactStepRayWrong : ChangeSpec := { name := "fnExactStepRay", fn := fun _ => fun
  | [d1, d2, d3, d4] => { results := [.lit (.bool false)], args := [d1, d2, d3, d4] }
  | _ => none }
def FnExactStepRayWrongFalsely : Prop := fnExactStepRayRow.holds Try.pinned (OpenSpec.ofChange fnExactStepRayWrong)

/-- 'laws.FnExactTraceRay': WHATEVER THE INPUT: true; the input reads as it did. -/
def fnExactTraceRaySpec : ChangeSpec := { name := "fnExactTraceRay", fn := fun _ => fun
  | [d1, d2, d3, d4] => { results := [.lit (.bool true)], args := [d1, d2, d3, d4] }
  | _ => none }
def fnExactTraceRayRow : OpenClaim := { program := "ythbcllejojnboaa", sum := "b3ded7d20c4b3fd0be3c95923d9d1d4cbeb7a053869ed5eb4a0157487e82fcf0", func := "loop.example/g00915/laws.FnExactTraceRay", spec := "fnExactTraceRay", unfollowed := true, recurses := true, plainKeys := false, apart := false }
def FnExactTraceRaySaid : Prop := fnExactTraceRayRow.holds Try.pinned (OpenSpec.ofChange fnExactTraceRaySpec)

/-- ITS FALSE NEIGHBOUR: 'it returns false'. Refute it at one input. -/
def fnExactTraceRayWrong : ChangeSpec := { name := "fnExactTraceRay", fn := fun _ => fun
  | [d1, d2, d3, d4] => { results := [.lit (.bool false)], args := [d1, d2, d3, d4] }
  | _ => none }
def FnExactTraceRayWrongFalsely : Prop := fnExactTraceRayRow.holds Try.pinned (OpenSpec.ofChange fnExactTraceRayWrong)

/-- 'laws.FnExactRangesOf': WHATEVER THE INPUT: true; the input reads as it did. -/
def fnExactRangesOfSpec : ChangeSpec := { name := "fnExactRangesOf", fn := fun _ => fun
  | [d1, d2, d3, d4] => { results := [.lit (.bool true)], args := [d1, d2, d3, d4] }
  | _ => none }
def fnExactRangesOfRow : OpenClaim := { program := "ythbcllejojnboaa", sum := "b3ded7d20c4b3fd0be3c95923d9d1d4cbeb7a053869ed5eb4a0157487e82fcf0", func := "loop.example/g00915/laws.FnExactRangesOf", spec := "fnExactRangesOf", unfollowed := true, recurses := true, plainKeys := false, apart := false }
def FnExactRangesOfSaid : Prop := fnExactRangesOfRow.holds Try.pinned (OpenSpec.ofChange fnExactRangesOfSpec)

/-- ITS FALSE NEIGHBOUR: 'it returns false'. Refute it at one input. -/
def fnExactRangesOfWrong : ChangeSpec := { name := "fnExactRangesOf", fn := fun _ => fun
  | [d1, d2, d3, d4] => { results := [.lit (.bool false)], args := [d1, d2, d3, d4] }
  | _ => none }
def FnExactRangesOfWrongFalsely : Prop := fnExactRangesOfRow.holds Try.pinned (OpenSpec.ofChange fnExactRangesOfWrong)

/-- 'laws.FnExactDeepestOf': WHATEVER THE INPUT: true; the input reads as it did. -/
def fnExactDeepestOfSpec : ChangeSpec := { name := "fnExactDeepestOf", fn := fun _ => fun
  | [d1, d2, d3, d4] => { results := [.lit (.bool true)], args := [d1, d2, d3, d4] }
  | _ => none }
def fnExactDeepestOfRow : OpenClaim := { program := "ythbcllejojnboaa", sum := "b3ded7d20c4b3fd0be3c95923d9d1d4cbeb7a053869ed5eb4a0157487e82fcf0", func := "loop.example/g00915/laws.FnExactDeepestOf", spec := "fnExactDeepestOf", unfollowed := true, recurses := true, plainKeys := false, apart := false }
def FnExactDeepestOfSaid : Prop := fnExactDeepestOfRow.holds Try.pinned (OpenSpec.ofChange fnExactDeepestOfSpec)

/-- ITS FALSE NEIGHBOUR: 'it returns false'. Refute it at one input. -/
def fnExactDeepestOfWrong : ChangeSpec := { name := "fnExactDeepestOf", fn := fun _ => fun
  | [d1, d2, d3, d4] => { results := [.lit (.bool false)], args := [d1, d2, d3, d4] }
  | _ => none }
def FnExactDeepestOfWrongFalsely : Prop := fnExactDeepestOfRow.holds Try.pinned (OpenSpec.ofChange fnExactDeepestOfWrong)

/- THE SECOND FORM. 'bulk': how many values and letters a reading holds, each counted each time it is reached (what is shared counts as often as it is met; a slice's spare places count too). A statement '..UptoSaid' is the law's where the arguments, and the package variables that the reading takes, are together of bulk at most 1048576: NARROWER than '..Said'. Prove '..Said' where nothing that the law and all that it calls make is longer than what came in: it says more and counts as full. Else prove '..UptoSaid'. A law counts once. -/
mutual
def uptoBulk {H : Type} : DataW H → Nat
  | .lit (.string bytes) => bytes.length + 1
  | .lit _ => 1
  | .nil => 1
  | .ptr d => uptoBulk d + 1
  | .slice elems spare => uptoBulkAll elems + uptoBulkAll spare + 1
  | .agg parts => uptoBulkAll parts + 1
  | .iface _ d => uptoBulk d + 1
  | .map entries => uptoBulkEntries entries + 1
  | .held _ => 1
def uptoBulkAll {H : Type} : List (DataW H) → Nat
  | [] => 0
  | d :: r => uptoBulk d + uptoBulkAll r
def uptoBulkEntries {H : Type} : List (Lit × DataW H) → Nat
  | [] => 0
  | x :: r => uptoBulkEntry x + uptoBulkEntries r
def uptoBulkEntry {H : Type} : Lit × DataW H → Nat
  | (.string bytes, d) => bytes.length + uptoBulk d + 1
  | (_, d) => uptoBulk d + 1
 end
def uptoSmall : (H : Type) → List (DataW H) → Bool := fun _ ds => decide (uptoBulkAll ds ≤ 1048576)
def OpenSpec.upto (s : _root_.Go.ChangeSpec) : _root_.Go.OpenSpec := { _root_.Go.OpenSpec.ofChange s with cond := some uptoSmall }

/-- 'laws.FnExactSumIntervals', WHERE WHAT IT READS IS OF BULK AT MOST 1048576: true; the input reads as it did. -/
def fnExactSumIntervalsUptoRow : OpenClaim := { program := "ythbcllejojnboaa", sum := "b3ded7d20c4b3fd0be3c95923d9d1d4cbeb7a053869ed5eb4a0157487e82fcf0", func := "loop.example/g00915/laws.FnExactSumIntervals", spec := "fnExactSumIntervals", plainKeys := false, apart := false, narrowed := true }
def FnExactSumIntervalsUptoSaid : Prop := fnExactSumIntervalsUptoRow.holds Try.pinned (OpenSpec.upto fnExactSumIntervalsSpec)

/-- 'laws.FnIntervalSums', WHERE WHAT IT READS IS OF BULK AT MOST 1048576: true; the input reads as it did. -/
def fnIntervalSumsUptoRow : OpenClaim := { program := "ythbcllejojnboaa", sum := "b3ded7d20c4b3fd0be3c95923d9d1d4cbeb7a053869ed5eb4a0157487e82fcf0", func := "loop.example/g00915/laws.FnIntervalSums", spec := "fnIntervalSums", plainKeys := false, apart := false, narrowed := true }
def FnIntervalSumsUptoSaid : Prop := fnIntervalSumsUptoRow.holds Try.pinned (OpenSpec.upto fnIntervalSumsSpec)

/-- 'laws.FnTraces', WHERE WHAT IT READS IS OF BULK AT MOST 1048576: true; the input reads as it did. -/
def fnTracesUptoRow : OpenClaim := { program := "ythbcllejojnboaa", sum := "b3ded7d20c4b3fd0be3c95923d9d1d4cbeb7a053869ed5eb4a0157487e82fcf0", func := "loop.example/g00915/laws.FnTraces", spec := "fnTraces", unfollowed := true, recurses := true, plainKeys := false, apart := false, narrowed := true }
def FnTracesUptoSaid : Prop := fnTracesUptoRow.holds Try.pinned (OpenSpec.upto fnTracesSpec)

/-- 'laws.FnRaySteps', WHERE WHAT IT READS IS OF BULK AT MOST 1048576: true; the input reads as it did. -/
def fnRayStepsUptoRow : OpenClaim := { program := "ythbcllejojnboaa", sum := "b3ded7d20c4b3fd0be3c95923d9d1d4cbeb7a053869ed5eb4a0157487e82fcf0", func := "loop.example/g00915/laws.FnRaySteps", spec := "fnRaySteps", unfollowed := true, recurses := true, plainKeys := false, apart := false, narrowed := true }
def FnRayStepsUptoSaid : Prop := fnRayStepsUptoRow.holds Try.pinned (OpenSpec.upto fnRayStepsSpec)

/-- 'laws.FnDeepest', WHERE WHAT IT READS IS OF BULK AT MOST 1048576: true; the input reads as it did. -/
def fnDeepestUptoRow : OpenClaim := { program := "ythbcllejojnboaa", sum := "b3ded7d20c4b3fd0be3c95923d9d1d4cbeb7a053869ed5eb4a0157487e82fcf0", func := "loop.example/g00915/laws.FnDeepest", spec := "fnDeepest", unfollowed := true, recurses := true, plainKeys := false, apart := false, narrowed := true }
def FnDeepestUptoSaid : Prop := fnDeepestUptoRow.holds Try.pinned (OpenSpec.upto fnDeepestSpec)

/-- 'laws.FnExactIsRayState', WHERE WHAT IT READS IS OF BULK AT MOST 1048576: true; the input reads as it did. -/
def fnExactIsRayStateUptoRow : OpenClaim := { program := "ythbcllejojnboaa", sum := "b3ded7d20c4b3fd0be3c95923d9d1d4cbeb7a053869ed5eb4a0157487e82fcf0", func := "loop.example/g00915/laws.FnExactIsRayState", spec := "fnExactIsRayState", unfollowed := true, recurses := true, plainKeys := false, apart := false, narrowed := true }
def FnExactIsRayStateUptoSaid : Prop := fnExactIsRayStateUptoRow.holds Try.pinned (OpenSpec.upto fnExactIsRayStateSpec)

/-- 'laws.FnExactFirstState', WHERE WHAT IT READS IS OF BULK AT MOST 1048576: true; the input reads as it did. -/
def fnExactFirstStateUptoRow : OpenClaim := { program := "ythbcllejojnboaa", sum := "b3ded7d20c4b3fd0be3c95923d9d1d4cbeb7a053869ed5eb4a0157487e82fcf0", func := "loop.example/g00915/laws.FnExactFirstState", spec := "fnExactFirstState", unfollowed := true, recurses := true, plainKeys := false, apart := false, narrowed := true }
def FnExactFirstStateUptoSaid : Prop := fnExactFirstStateUptoRow.holds Try.pinned (OpenSpec.upto fnExactFirstStateSpec)

/-- 'laws.FnExactStepRay', WHERE WHAT IT READS IS OF BULK AT MOST 1048576: true; the input reads as it did. -/
def fnExactStepRayUptoRow : OpenClaim := { program := "ythbcllejojnboaa", sum := "b3ded7d20c4b3fd0be3c95923d9d1d4cbeb7a053869ed5eb4a0157487e82fcf0", func := "loop.example/g00915/laws.FnExactStepRay", spec := "fnExactStepRay", unfollowed := true, recurses := true, plainKeys := false, apart := false, narrowed := true }
def FnExactStepRayUptoSaid : Prop := fnExactStepRayUptoRow.holds Try.pinned (OpenSpec.upto fnExactStepRaySpec)

/-- 'laws.FnExactTraceRay', WHERE WHAT IT READS IS OF BULK AT MOST 1048576: true; the input reads as it did. -/
def fnExactTraceRayUptoRow : OpenClaim := { program := "ythbcllejojnboaa", sum := "b3ded7d20c4b3fd0be3c95923d9d1d4cbeb7a053869ed5eb4a0157487e82fcf0", func := "loop.example/g00915/laws.FnExactTraceRay", spec := "fnExactTraceRay", unfollowed := true, recurses := true, plainKeys := false, apart := false, narrowed := true }
def FnExactTraceRayUptoSaid : Prop := fnExactTraceRayUptoRow.holds Try.pinned (OpenSpec.upto fnExactTraceRaySpec)

/-- 'laws.FnExactRangesOf', WHERE WHAT IT READS IS OF BULK AT MOST 1048576: true; the input reads as it did. -/
def fnExactRangesOfUptoRow : OpenClaim := { program := "ythbcllejojnboaa", sum := "b3ded7d20c4b3fd0be3c95923d9d1d4cbeb7a053869ed5eb4a0157487e82fcf0", func := "loop.example/g00915/laws.FnExactRangesOf", spec := "fnExactRangesOf", unfollowed := true, recurses := true, plainKeys := false, apart := false, narrowed := true }
def FnExactRangesOfUptoSaid : Prop := fnExactRangesOfUptoRow.holds Try.pinned (OpenSpec.upto fnExactRangesOfSpec)

/-- 'laws.FnExactDeepestOf', WHERE WHAT IT READS IS OF BULK AT MOST 1048576: true; the input reads as it did. -/
def fnExactDeepestOfUptoRow : OpenClaim := { program := "ythbcllejojnboaa", sum := "b3ded7d20c4b3fd0be3c95923d9d1d4cbeb7a053869ed5eb4a0157487e82fcf0", func := "loop.example/g00915/laws.FnExactDeepestOf", spec := "fnExactDeepestOf", unfollowed := true, recurses := true, plainKeys := false, apart := false, narrowed := true }
def FnExactDeepestOfUptoSaid : Prop := fnExactDeepestOfUptoRow.holds Try.pinned (OpenSpec.upto fnExactDeepestOfSpec)

end Rows
end Go.Proofs.Ythbcllejojnboaa
