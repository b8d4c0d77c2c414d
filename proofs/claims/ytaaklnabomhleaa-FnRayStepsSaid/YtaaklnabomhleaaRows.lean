/-
  No cell of these rows narrows 'for every input' (looked for: loops, veiled, ifaces, maps, wideKeys, modest, calm, conditions, laid).
  DERIVED. THE GIVEN ROWS OF THIS SEAT. 14 by the template 'for every input the law returns true; each argument reads behind the call as it read before'; 0 by the template 'total and deterministic' (their statements: YtaaklnabomhleaaTotals.lean).
  GIVEN WITH THE SEED: the statements are not yours to turn. If you find one false, say at which input.
  Laid BY PROGRAM, IN A SANDBOX (cutbox-rows.mjs): the forced cells as the released guide's own fill.sh prints them over the translation a653b9a20075fd5f… (all of the seat's roots in one cut). By AI agents, Wed Nov 11 2026. No macro, syntax, notation, axiom, sorry.
-/
import Derived.Test.YtaaklnabomhleaaChecked
import GoSem.Claim
import GoSem.ClaimJoined
import GoSem.ClaimMapViews
import Derived.JoinedTies
import Derived.KernelRfl
namespace Go.Proofs.Ytaaklnabomhleaa
/- THE CELL 'sum', in the pinned program and in every row, IS THE sha256 OF THE DUMP (.gsa) THAT YtaaklnabomhleaaProg.lean LOADS. Nothing in Lean hashes anything: it is a label: what it is worth is what the hold of that sum in a sandbox is worth. -/
noncomputable def Try.pinned : Pinned := { name := "ytaaklnabomhleaa", sum := "a653b9a20075fd5f0ecaf7f4f22d02afe85cd27aecebca2354959707553d5ef0", checked := Try.checked }
namespace Rows
def none {H : Type} : Left H := { results := [], args := [] }

/-- 'laws.FnExactIsFan': WHATEVER THE INPUT: true; the input reads as it did. -/
def fnExactIsFanSpec : ChangeSpec := { name := "fnExactIsFan", fn := fun _ => fun
  | [d1, d2, d3] => { results := [.lit (.bool true)], args := [d1, d2, d3] }
  | _ => none }
def fnExactIsFanRow : OpenClaim := { program := "ytaaklnabomhleaa", sum := "a653b9a20075fd5f0ecaf7f4f22d02afe85cd27aecebca2354959707553d5ef0", func := "loop.example/g00915/laws.FnExactIsFan", spec := "fnExactIsFan", plainKeys := false, apart := false }
def FnExactIsFanSaid : Prop := fnExactIsFanRow.holds Try.pinned (OpenSpec.ofChange fnExactIsFanSpec)

/-- ITS FALSE NEIGHBOUR: 'it returns false'. Refute it at one input. -/
def fnExactIsFanWrong : ChangeSpec := { name := "fnExactIsFan", fn := fun _ => fun
  | [d1, d2, d3] => { results := [.lit (.bool false)], args := [d1, d2, d3] }
  | _ => none }
def FnExactIsFanWrongFalsely : Prop := fnExactIsFanRow.holds Try.pinned (OpenSpec.ofChange fnExactIsFanWrong)

/-- 'laws.FnExactFanOf': WHATEVER THE INPUT: true; the input reads as it did. -/
def fnExactFanOfSpec : ChangeSpec := { name := "fnExactFanOf", fn := fun _ => fun
  | [d1, d2, d3, d4] => { results := [.lit (.bool true)], args := [d1, d2, d3, d4] }
  | _ => none }
def fnExactFanOfRow : OpenClaim := { program := "ytaaklnabomhleaa", sum := "a653b9a20075fd5f0ecaf7f4f22d02afe85cd27aecebca2354959707553d5ef0", func := "loop.example/g00915/laws.FnExactFanOf", spec := "fnExactFanOf", plainKeys := false, apart := false }
def FnExactFanOfSaid : Prop := fnExactFanOfRow.holds Try.pinned (OpenSpec.ofChange fnExactFanOfSpec)

/-- ITS FALSE NEIGHBOUR: 'it returns false'. Refute it at one input. -/
def fnExactFanOfWrong : ChangeSpec := { name := "fnExactFanOf", fn := fun _ => fun
  | [d1, d2, d3, d4] => { results := [.lit (.bool false)], args := [d1, d2, d3, d4] }
  | _ => none }
def FnExactFanOfWrongFalsely : Prop := fnExactFanOfRow.holds Try.pinned (OpenSpec.ofChange fnExactFanOfWrong)

/-- 'laws.FnExactLiesBetween': WHATEVER THE INPUT: true; the input reads as it did. -/
def fnExactLiesBetweenSpec : ChangeSpec := { name := "fnExactLiesBetween", fn := fun _ => fun
  | [d1, d2, d3] => { results := [.lit (.bool true)], args := [d1, d2, d3] }
  | _ => none }
def fnExactLiesBetweenRow : OpenClaim := { program := "ytaaklnabomhleaa", sum := "a653b9a20075fd5f0ecaf7f4f22d02afe85cd27aecebca2354959707553d5ef0", func := "loop.example/g00915/laws.FnExactLiesBetween", spec := "fnExactLiesBetween", plainKeys := false, apart := false }
def FnExactLiesBetweenSaid : Prop := fnExactLiesBetweenRow.holds Try.pinned (OpenSpec.ofChange fnExactLiesBetweenSpec)

/-- ITS FALSE NEIGHBOUR: 'it returns false'. Refute it at one input. -/
def fnExactLiesBetweenWrong : ChangeSpec := { name := "fnExactLiesBetween", fn := fun _ => fun
  | [d1, d2, d3] => { results := [.lit (.bool false)], args := [d1, d2, d3] }
  | _ => none }
def FnExactLiesBetweenWrongFalsely : Prop := fnExactLiesBetweenRow.holds Try.pinned (OpenSpec.ofChange fnExactLiesBetweenWrong)

/-- 'laws.FnFans': WHATEVER THE INPUT: true; the input reads as it did. -/
def fnFansSpec : ChangeSpec := { name := "fnFans", fn := fun _ => fun
  | [d] => { results := [.lit (.bool true)], args := [d] }
  | _ => none }
def fnFansRow : OpenClaim := { program := "ytaaklnabomhleaa", sum := "a653b9a20075fd5f0ecaf7f4f22d02afe85cd27aecebca2354959707553d5ef0", func := "loop.example/g00915/laws.FnFans", spec := "fnFans", plainKeys := false, apart := false }
def FnFansSaid : Prop := fnFansRow.holds Try.pinned (OpenSpec.ofChange fnFansSpec)

/-- ITS FALSE NEIGHBOUR: 'it returns false'. Refute it at one input. -/
def fnFansWrong : ChangeSpec := { name := "fnFans", fn := fun _ => fun
  | [d] => { results := [.lit (.bool false)], args := [d] }
  | _ => none }
def FnFansWrongFalsely : Prop := fnFansRow.holds Try.pinned (OpenSpec.ofChange fnFansWrong)

/-- 'laws.FnExactCellRange': WHATEVER THE INPUT: true; the input reads as it did. -/
def fnExactCellRangeSpec : ChangeSpec := { name := "fnExactCellRange", fn := fun _ => fun
  | [d1, d2, d3, d4, d5] => { results := [.lit (.bool true)], args := [d1, d2, d3, d4, d5] }
  | _ => none }
def fnExactCellRangeRow : OpenClaim := { program := "ytaaklnabomhleaa", sum := "a653b9a20075fd5f0ecaf7f4f22d02afe85cd27aecebca2354959707553d5ef0", func := "loop.example/g00915/laws.FnExactCellRange", spec := "fnExactCellRange", unfollowed := true, recurses := true, plainKeys := false, apart := false }
def FnExactCellRangeSaid : Prop := fnExactCellRangeRow.holds Try.pinned (OpenSpec.ofChange fnExactCellRangeSpec)

/-- ITS FALSE NEIGHBOUR: 'it returns false'. Refute it at one input. -/
def fnExactCellRangeWrong : ChangeSpec := { name := "fnExactCellRange", fn := fun _ => fun
  | [d1, d2, d3, d4, d5] => { results := [.lit (.bool false)], args := [d1, d2, d3, d4, d5] }
  | _ => none }
def FnExactCellRangeWrongFalsely : Prop := fnExactCellRangeRow.holds Try.pinned (OpenSpec.ofChange fnExactCellRangeWrong)

/-- 'laws.FnExactCellVerdict': WHATEVER THE INPUT: true; the input reads as it did. -/
def fnExactCellVerdictSpec : ChangeSpec := { name := "fnExactCellVerdict", fn := fun _ => fun
  | [d1, d2, d3, d4, d5, d6, d7] => { results := [.lit (.bool true)], args := [d1, d2, d3, d4, d5, d6, d7] }
  | _ => none }
def fnExactCellVerdictRow : OpenClaim := { program := "ytaaklnabomhleaa", sum := "a653b9a20075fd5f0ecaf7f4f22d02afe85cd27aecebca2354959707553d5ef0", func := "loop.example/g00915/laws.FnExactCellVerdict", spec := "fnExactCellVerdict", unfollowed := true, recurses := true, plainKeys := false, apart := false }
def FnExactCellVerdictSaid : Prop := fnExactCellVerdictRow.holds Try.pinned (OpenSpec.ofChange fnExactCellVerdictSpec)

/-- ITS FALSE NEIGHBOUR: 'it returns false'. Refute it at one input. -/
def fnExactCellVerdictWrong : ChangeSpec := { name := "fnExactCellVerdict", fn := fun _ => fun
  | [d1, d2, d3, d4, d5, d6, d7] => { results := [.lit (.bool false)], args := [d1, d2, d3, d4, d5, d6, d7] }
  | _ => none }
def FnExactCellVerdictWrongFalsely : Prop := fnExactCellVerdictRow.holds Try.pinned (OpenSpec.ofChange fnExactCellVerdictWrong)

/-- 'laws.FnTraces': WHATEVER THE INPUT: true; the input reads as it did. -/
def fnTracesSpec : ChangeSpec := { name := "fnTraces", fn := fun _ => fun
  | [d] => { results := [.lit (.bool true)], args := [d] }
  | _ => none }
def fnTracesRow : OpenClaim := { program := "ytaaklnabomhleaa", sum := "a653b9a20075fd5f0ecaf7f4f22d02afe85cd27aecebca2354959707553d5ef0", func := "loop.example/g00915/laws.FnTraces", spec := "fnTraces", unfollowed := true, recurses := true, plainKeys := false, apart := false }
def FnTracesSaid : Prop := fnTracesRow.holds Try.pinned (OpenSpec.ofChange fnTracesSpec)

/-- ITS FALSE NEIGHBOUR: 'it returns false'. Refute it at one input. -/
def fnTracesWrong : ChangeSpec := { name := "fnTraces", fn := fun _ => fun
  | [d] => { results := [.lit (.bool false)], args := [d] }
  | _ => none }
def FnTracesWrongFalsely : Prop := fnTracesRow.holds Try.pinned (OpenSpec.ofChange fnTracesWrong)

/-- 'laws.FnRaySteps': WHATEVER THE INPUT: true; the input reads as it did. -/
def fnRayStepsSpec : ChangeSpec := { name := "fnRaySteps", fn := fun _ => fun
  | [d] => { results := [.lit (.bool true)], args := [d] }
  | _ => none }
def fnRayStepsRow : OpenClaim := { program := "ytaaklnabomhleaa", sum := "a653b9a20075fd5f0ecaf7f4f22d02afe85cd27aecebca2354959707553d5ef0", func := "loop.example/g00915/laws.FnRaySteps", spec := "fnRaySteps", unfollowed := true, recurses := true, plainKeys := false, apart := false }
def FnRayStepsSaid : Prop := fnRayStepsRow.holds Try.pinned (OpenSpec.ofChange fnRayStepsSpec)

/-- ITS FALSE NEIGHBOUR: 'it returns false'. Refute it at one input. -/
def fnRayStepsWrong : ChangeSpec := { name := "fnRaySteps", fn := fun _ => fun
  | [d] => { results := [.lit (.bool false)], args := [d] }
  | _ => none }
def FnRayStepsWrongFalsely : Prop := fnRayStepsRow.holds Try.pinned (OpenSpec.ofChange fnRayStepsWrong)

/-- 'laws.FnExactEncloseAll': WHATEVER THE INPUT: true; the input reads as it did. -/
def fnExactEncloseAllSpec : ChangeSpec := { name := "fnExactEncloseAll", fn := fun _ => fun
  | [d] => { results := [.lit (.bool true)], args := [d] }
  | _ => none }
def fnExactEncloseAllRow : OpenClaim := { program := "ytaaklnabomhleaa", sum := "a653b9a20075fd5f0ecaf7f4f22d02afe85cd27aecebca2354959707553d5ef0", func := "loop.example/g00915/laws.FnExactEncloseAll", spec := "fnExactEncloseAll", plainKeys := false, apart := false }
def FnExactEncloseAllSaid : Prop := fnExactEncloseAllRow.holds Try.pinned (OpenSpec.ofChange fnExactEncloseAllSpec)

/-- ITS FALSE NEIGHBOUR: 'it returns false'. Refute it at one input. -/
def fnExactEncloseAllWrong : ChangeSpec := { name := "fnExactEncloseAll", fn := fun _ => fun
  | [d] => { results := [.lit (.bool false)], args := [d] }
  | _ => none }
def FnExactEncloseAllWrongFalsely : Prop := fnExactEncloseAllRow.holds Try.pinned (OpenSpec.ofChange fnExactEncloseAllWrong)

/-- 'laws.FnExactFirstState': WHATEVER THE INPUT: true; the input reads as it did. -/
def fnExactFirstStateSpec : ChangeSpec := { name := "fnExactFirstState", fn := fun _ => fun
  | [d1, d2, d3] => { results := [.lit (.bool true)], args := [d1, d2, d3] }
  | _ => none }
def fnExactFirstStateRow : OpenClaim := { program := "ytaaklnabomhleaa", sum := "a653b9a20075fd5f0ecaf7f4f22d02afe85cd27aecebca2354959707553d5ef0", func := "loop.example/g00915/laws.FnExactFirstState", spec := "fnExactFirstState", unfollowed := true, recurses := true, plainKeys := false, apart := false }
def FnExactFirstStateSaid : Prop := fnExactFirstStateRow.holds Try.pinned (OpenSpec.ofChange fnExactFirstStateSpec)

/-- ITS FALSE NEIGHBOUR: 'it returns false'. Refute it at one input. -/
def fnExactFirstStateWrong : ChangeSpec := { name := "fnExactFirstState", fn := fun _ => fun
  | [d1, d2, d3] => { results := [.lit (.bool false)], args := [d1, d2, d3] }
  | _ => none }
def FnExactFirstStateWrongFalsely : Prop := fnExactFirstStateRow.holds Try.pinned (OpenSpec.ofChange fnExactFirstStateWrong)

/-- 'laws.FnExactTraceRay': WHATEVER THE INPUT: true; the input reads as it did. -/
def fnExactTraceRaySpec : ChangeSpec := { name := "fnExactTraceRay", fn := fun _ => fun
  | [d1, d2, d3, d4] => { results := [.lit (.bool true)], args := [d1, d2, d3, d4] }
  | _ => none }
def fnExactTraceRayRow : OpenClaim := { program := "ytaaklnabomhleaa", sum := "a653b9a20075fd5f0ecaf7f4f22d02afe85cd27aecebca2354959707553d5ef0", func := "loop.example/g00915/laws.FnExactTraceRay", spec := "fnExactTraceRay", unfollowed := true, recurses := true, plainKeys := false, apart := false }
def FnExactTraceRaySaid : Prop := fnExactTraceRayRow.holds Try.pinned (OpenSpec.ofChange fnExactTraceRaySpec)

/-- ITS FALSE NEIGHBOUR: 'it returns false'. Refute it at one input. -/
def fnExactTraceRayWrong : ChangeSpec := { name := "fnExactTraceRay", fn := fun _ => fun
  | [d1, d2, d3, d4] => { results := [.lit (.bool false)], args := [d1, d2, d3, d4] }
  | _ => none }
def FnExactTraceRayWrongFalsely : Prop := fnExactTraceRayRow.holds Try.pinned (OpenSpec.ofChange fnExactTraceRayWrong)

/-- 'laws.FnExactRangesOf': WHATEVER THE INPUT: true; the input reads as it did. -/
def fnExactRangesOfSpec : ChangeSpec := { name := "fnExactRangesOf", fn := fun _ => fun
  | [d1, d2, d3, d4] => { results := [.lit (.bool true)], args := [d1, d2, d3, d4] }
  | _ => none }
def fnExactRangesOfRow : OpenClaim := { program := "ytaaklnabomhleaa", sum := "a653b9a20075fd5f0ecaf7f4f22d02afe85cd27aecebca2354959707553d5ef0", func := "loop.example/g00915/laws.FnExactRangesOf", spec := "fnExactRangesOf", unfollowed := true, recurses := true, plainKeys := false, apart := false }
def FnExactRangesOfSaid : Prop := fnExactRangesOfRow.holds Try.pinned (OpenSpec.ofChange fnExactRangesOfSpec)

/-- ITS FALSE NEIGHBOUR: 'it returns false'. Refute it at one input. -/
def fnExactRangesOfWrong : ChangeSpec := { name := "fnExactRangesOf", fn := fun _ => fun
  | [d1, d2, d3, d4] => { results := [.lit (.bool false)], args := [d1, d2, d3, d4] }
  | _ => none }
def FnExactRangesOfWrongFalsely : Prop := fnExactRangesOfRow.holds Try.pinned (OpenSpec.ofChange fnExactRangesOfWrong)

/-- 'laws.FnExactDeepestOf': WHATEVER THE INPUT: true; the input reads as it did. -/
def fnExactDeepestOfSpec : ChangeSpec := { name := "fnExactDeepestOf", fn := fun _ => fun
  | [d1, d2, d3, d4] => { results := [.lit (.bool true)], args := [d1, d2, d3, d4] }
  | _ => none }
def fnExactDeepestOfRow : OpenClaim := { program := "ytaaklnabomhleaa", sum := "a653b9a20075fd5f0ecaf7f4f22d02afe85cd27aecebca2354959707553d5ef0", func := "loop.example/g00915/laws.FnExactDeepestOf", spec := "fnExactDeepestOf", unfollowed := true, recurses := true, plainKeys := false, apart := false }
def FnExactDeepestOfSaid : Prop := fnExactDeepestOfRow.holds Try.pinned (OpenSpec.ofChange fnExactDeepestOfSpec)

/-- ITS FALSE NEIGHBOUR: 'it returns false'. Refute it at one input. -/
def fnExactDeepestOfWrong : ChangeSpec := { name := "fnExactDeepestOf", fn := fun _ => fun
  | [d1, d2, d3, d4] => { results := [.lit (.bool false)], args := [d1, d2, d3, d4] }
  | _ => none }
def FnExactDeepestOfWrongFalsely : Prop := fnExactDeepestOfRow.holds Try.pinned (OpenSpec.ofChange fnExactDeepestOfWrong)

/-- 'laws.FnDeepest': WHATEVER THE INPUT: true; the input reads as it did. -/
def fnDeepestSpec : ChangeSpec := { name := "fnDeepest", fn := fun _ => fun
  | [d] => { results := [.lit (.bool true)], args := [d] }
  | _ => none }
def fnDeepestRow : OpenClaim := { program := "ytaaklnabomhleaa", sum := "a653b9a20075fd5f0ecaf7f4f22d02afe85cd27aecebca2354959707553d5ef0", func := "loop.example/g00915/laws.FnDeepest", spec := "fnDeepest", unfollowed := true, recurses := true, plainKeys := false, apart := false }
def FnDeepestSaid : Prop := fnDeepestRow.holds Try.pinned (OpenSpec.ofChange fnDeepestSpec)

/-- ITS FALSE NEIGHBOUR: 'it returns false'. Refute it at one input. -/
def fnDeepestWrong : ChangeSpec := { name := "fnDeepest", fn := fun _ => fun
  | [d] => { results := [.lit (.bool false)], args := [d] }
  | _ => none }
def FnDeepestWrongFalsely : Prop := fnDeepestRow.holds Try.pinned (OpenSpec.ofChange fnDeepestWrong)

/- THE SECOND FORM. 'bulk': how many values and letters a reading holds, each counted each time it is reached (what is shared counts as often as it is met; a slice's spare places count too). A statement '..UptoSaid' is the law's where the arguments, and the package variables that the reading takes, are together of bulk at most 1048576: NARROWER than '..Said'. Prove '..Said' where nothing that the law and all that it calls make is longer than what came in: it says more and counts as full. Else prove '..UptoSaid'. A law counts once. -/
mutual
def uptoBulk {H : Type} : DataW H → Nat
  | .lit (.string bytes) => bytes.length + 1
  | .lit _ => 1
  | .nil => 1
  | .ptr d => uptoBulk d + 1
  | .slice elems spare => uptoBulkAll elems + uptoBulkAll spare + 1
  | .agg parts => uptoBulkAll parts + 1
  | .iface _ d => uptoBulk d + 1
  | .map entries => uptoBulkEntries entries + 1
  | .held _ => 1
def uptoBulkAll {H : Type} : List (DataW H) → Nat
  | [] => 0
  | d :: r => uptoBulk d + uptoBulkAll r
def uptoBulkEntries {H : Type} : List (Lit × DataW H) → Nat
  | [] => 0
  | x :: r => uptoBulkEntry x + uptoBulkEntries r
def uptoBulkEntry {H : Type} : Lit × DataW H → Nat
  | (.string bytes, d) => bytes.length + uptoBulk d + 1
  | (_, d) => uptoBulk d + 1
 end
def uptoSmall : (H : Type) → List (DataW H) → Bool := fun _ ds => decide (uptoBulkAll ds ≤ 1048576)
def OpenSpec.upto (s : _root_.Go.ChangeSpec) : _root_.Go.OpenSpec := { _root_.Go.OpenSpec.ofChange s with cond := some uptoSmall }

/-- 'laws.FnExactIsFan', WHERE WHAT IT READS IS OF BULK AT MOST 1048576: true; the input reads as it did. -/
def fnExactIsFanUptoRow : OpenClaim := { program := "ytaaklnabomhleaa", sum := "a653b9a20075fd5f0ecaf7f4f22d02afe85cd27aecebca2354959707553d5ef0", func := "loop.example/g00915/laws.FnExactIsFan", spec := "fnExactIsFan", plainKeys := false, apart := false, narrowed := true }
def FnExactIsFanUptoSaid : Prop := fnExactIsFanUptoRow.holds Try.pinned (OpenSpec.upto fnExactIsFanSpec)

/-- 'laws.FnExactFanOf', WHERE WHAT IT READS IS OF BULK AT MOST 1048576: true; the input reads as it did. -/
def fnExactFanOfUptoRow : OpenClaim := { program := "ytaaklnabomhleaa", sum := "a653b9a20075fd5f0ecaf7f4f22d02afe85cd27aecebca2354959707553d5ef0", func := "loop.example/g00915/laws.FnExactFanOf", spec := "fnExactFanOf", plainKeys := false, apart := false, narrowed := true }
def FnExactFanOfUptoSaid : Prop := fnExactFanOfUptoRow.holds Try.pinned (OpenSpec.upto fnExactFanOfSpec)

/-- 'laws.FnExactLiesBetween', WHERE WHAT IT READS IS OF BULK AT MOST 1048576: true; the input reads as it did. -/
def fnExactLiesBetweenUptoRow : OpenClaim := { program := "ytaaklnabomhleaa", sum := "a653b9a20075fd5f0ecaf7f4f22d02afe85cd27aecebca2354959707553d5ef0", func := "loop.example/g00915/laws.FnExactLiesBetween", spec := "fnExactLiesBetween", plainKeys := false, apart := false, narrowed := true }
def FnExactLiesBetweenUptoSaid : Prop := fnExactLiesBetweenUptoRow.holds Try.pinned (OpenSpec.upto fnExactLiesBetweenSpec)

/-- 'laws.FnFans', WHERE WHAT IT READS IS OF BULK AT MOST 1048576: true; the input reads as it did. -/
def fnFansUptoRow : OpenClaim := { program := "ytaaklnabomhleaa", sum := "a653b9a20075fd5f0ecaf7f4f22d02afe85cd27aecebca2354959707553d5ef0", func := "loop.example/g00915/laws.FnFans", spec := "fnFans", plainKeys := false, apart := false, narrowed := true }
def FnFansUptoSaid : Prop := fnFansUptoRow.holds Try.pinned (OpenSpec.upto fnFansSpec)

/-- 'laws.FnExactCellRange', WHERE WHAT IT READS IS OF BULK AT MOST 1048576: true; the input reads as it did. -/
def fnExactCellRangeUptoRow : OpenClaim := { program := "ytaaklnabomhleaa", sum := "a653b9a20075fd5f0ecaf7f4f22d02afe85cd27aecebca2354959707553d5ef0", func := "loop.example/g00915/laws.FnExactCellRange", spec := "fnExactCellRange", unfollowed := true, recurses := true, plainKeys := false, apart := false, narrowed := true }
def FnExactCellRangeUptoSaid : Prop := fnExactCellRangeUptoRow.holds Try.pinned (OpenSpec.upto fnExactCellRangeSpec)

/-- 'laws.FnExactCellVerdict', WHERE WHAT IT READS IS OF BULK AT MOST 1048576: true; the input reads as it did. -/
def fnExactCellVerdictUptoRow : OpenClaim := { program := "ytaaklnabomhleaa", sum := "a653b9a20075fd5f0ecaf7f4f22d02afe85cd27aecebca2354959707553d5ef0", func := "loop.example/g00915/laws.FnExactCellVerdict", spec := "fnExactCellVerdict", unfollowed := true, recurses := true, plainKeys := false, apart := false, narrowed := true }
def FnExactCellVerdictUptoSaid : Prop := fnExactCellVerdictUptoRow.holds Try.pinned (OpenSpec.upto fnExactCellVerdictSpec)

/-- 'laws.FnTraces', WHERE WHAT IT READS IS OF BULK AT MOST 1048576: true; the input reads as it did. -/
def fnTracesUptoRow : OpenClaim := { program := "ytaaklnabomhleaa", sum := "a653b9a20075fd5f0ecaf7f4f22d02afe85cd27aecebca2354959707553d5ef0", func := "loop.example/g00915/laws.FnTraces", spec := "fnTraces", unfollowed := true, recurses := true, plainKeys := false, apart := false, narrowed := true }
def FnTracesUptoSaid : Prop := fnTracesUptoRow.holds Try.pinned (OpenSpec.upto fnTracesSpec)

/-- 'laws.FnRaySteps', WHERE WHAT IT READS IS OF BULK AT MOST 1048576: true; the input reads as it did. -/
def fnRayStepsUptoRow : OpenClaim := { program := "ytaaklnabomhleaa", sum := "a653b9a20075fd5f0ecaf7f4f22d02afe85cd27aecebca2354959707553d5ef0", func := "loop.example/g00915/laws.FnRaySteps", spec := "fnRaySteps", unfollowed := true, recurses := true, plainKeys := false, apart := false, narrowed := true }
def FnRayStepsUptoSaid : Prop := fnRayStepsUptoRow.holds Try.pinned (OpenSpec.upto fnRayStepsSpec)

/-- 'laws.FnExactEncloseAll', WHERE WHAT IT READS IS OF BULK AT MOST 1048576: true; the input reads as it did. -/
def fnExactEncloseAllUptoRow : OpenClaim := { program := "ytaaklnabomhleaa", sum := "a653b9a20075fd5f0ecaf7f4f22d02afe85cd27aecebca2354959707553d5ef0", func := "loop.example/g00915/laws.FnExactEncloseAll", spec := "fnExactEncloseAll", plainKeys := false, apart := false, narrowed := true }
def FnExactEncloseAllUptoSaid : Prop := fnExactEncloseAllUptoRow.holds Try.pinned (OpenSpec.upto fnExactEncloseAllSpec)

/-- 'laws.FnExactFirstState', WHERE WHAT IT READS IS OF BULK AT MOST 1048576: true; the input reads as it did. -/
def fnExactFirstStateUptoRow : OpenClaim := { program := "ytaaklnabomhleaa", sum := "a653b9a20075fd5f0ecaf7f4f22d02afe85cd27aecebca2354959707553d5ef0", func := "loop.example/g00915/laws.FnExactFirstState", spec := "fnExactFirstState", unfollowed := true, recurses := true, plainKeys := false, apart := false, narrowed := true }
def FnExactFirstStateUptoSaid : Prop := fnExactFirstStateUptoRow.holds Try.pinned (OpenSpec.upto fnExactFirstStateSpec)

/-- 'laws.FnExactTraceRay', WHERE WHAT IT READS IS OF BULK AT MOST 1048576: true; the input reads as it did. -/
def fnExactTraceRayUptoRow : OpenClaim := { program := "ytaaklnabomhleaa", sum := "a653b9a20075fd5f0ecaf7f4f22d02afe85cd27aecebca2354959707553d5ef0", func := "loop.example/g00915/laws.FnExactTraceRay", spec := "fnExactTraceRay", unfollowed := true, recurses := true, plainKeys := false, apart := false, narrowed := true }
def FnExactTraceRayUptoSaid : Prop := fnExactTraceRayUptoRow.holds Try.pinned (OpenSpec.upto fnExactTraceRaySpec)

/-- 'laws.FnExactRangesOf', WHERE WHAT IT READS IS OF BULK AT MOST 1048576: true; the input reads as it did. -/
def fnExactRangesOfUptoRow : OpenClaim := { program := "ytaaklnabomhleaa", sum := "a653b9a20075fd5f0ecaf7f4f22d02afe85cd27aecebca2354959707553d5ef0", func := "loop.example/g00915/laws.FnExactRangesOf", spec := "fnExactRangesOf", unfollowed := true, recurses := true, plainKeys := false, apart := false, narrowed := true }
def FnExactRangesOfUptoSaid : Prop := fnExactRangesOfUptoRow.holds Try.pinned (OpenSpec.upto fnExactRangesOfSpec)

/-- 'laws.FnExactDeepestOf', WHERE WHAT IT READS IS OF BULK AT MOST 1048576: true; the input reads as it did. -/
def fnExactDeepestOfUptoRow : OpenClaim := { program := "ytaaklnabomhleaa", sum := "a653b9a20075fd5f0ecaf7f4f22d02afe85cd27aecebca2354959707553d5ef0", func := "loop.example/g00915/laws.FnExactDeepestOf", spec := "fnExactDeepestOf", unfollowed := true, recurses := true, plainKeys := false, apart := false, narrowed := true }
def FnExactDeepestOfUptoSaid : Prop := fnExactDeepestOfUptoRow.holds Try.pinned (OpenSpec.upto fnExactDeepestOfSpec)

/-- 'laws.FnDeepest', WHERE WHAT IT READS IS OF BULK AT MOST 1048576: true; the input reads as it did. -/
def fnDeepestUptoRow : OpenClaim := { program := "ytaaklnabomhleaa", sum := "a653b9a20075fd5f0ecaf7f4f22d02afe85cd27aecebca2354959707553d5ef0", func := "loop.example/g00915/laws.FnDeepest", spec := "fnDeepest", unfollowed := true, recurses := true, plainKeys := false, apart := false, narrowed := true }
def FnDeepestUptoSaid : Prop := fnDeepestUptoRow.holds Try.pinned (OpenSpec.upto fnDeepestSpec)

end Rows
end Go.Proofs.Ytaaklnabomhleaa
