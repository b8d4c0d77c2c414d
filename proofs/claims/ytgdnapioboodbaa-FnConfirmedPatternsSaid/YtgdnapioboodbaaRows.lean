/-
  No cell of these rows narrows 'for every input' (looked for: loops, veiled, ifaces, maps, wideKeys, modest, calm, conditions, laid).
  DERIVED. THE GIVEN ROWS OF THIS SEAT. 11 by the template 'for every input the law returns true; each argument reads behind the call as it read before'; 0 by the template 'total and deterministic' (their statements: YtgdnapioboodbaaTotals.lean).
  GIVEN WITH THE SEED: the statements are not yours to turn. If you find one false, say at which input.
  Laid BY PROGRAM, IN A SANDBOX (cutbox-rows.mjs): the forced cells as the released guide's own fill.sh prints them over the translation f38beb768f257e5c… (all of the seat's roots in one cut). By AI agents, Wed Nov 11 2026. No macro, syntax, notation, axiom, sorry.
-/
import Derived.Test.YtgdnapioboodbaaChecked
import GoSem.Claim
import GoSem.ClaimJoined
import GoSem.ClaimMapViews
import Derived.JoinedTies
import Derived.KernelRfl
namespace Go.Proofs.Ytgdnapioboodbaa
/- THE CELL 'sum', in the pinned program and in every row, IS THE sha256 OF THE DUMP (.gsa) THAT YtgdnapioboodbaaProg.lean LOADS. Nothing in Lean hashes anything: it is a label: what it is worth is what the hold of that sum in a sandbox is worth. -/
noncomputable def Try.pinned : Pinned := { name := "ytgdnapioboodbaa", sum := "f38beb768f257e5c6dc0984d9477bed2e6193b96a56821e0028fed1b7bc91aab", checked := Try.checked }
namespace Rows
def none {H : Type} : Left H := { results := [], args := [] }

/-- 'laws.FnTails': WHATEVER THE INPUT: true; the input reads as it did. -/
def fnTailsSpec : ChangeSpec := { name := "fnTails", fn := fun _ => fun
  | [d] => { results := [.lit (.bool true)], args := [d] }
  | _ => none }
def fnTailsRow : OpenClaim := { program := "ytgdnapioboodbaa", sum := "f38beb768f257e5c6dc0984d9477bed2e6193b96a56821e0028fed1b7bc91aab", func := "loop.example/g00915/laws.FnTails", spec := "fnTails", inPlace := ["sync/atomic.LoadUint32", "(*internal/sync.Mutex).Lock", "internal/race.Disable", "sync/atomic.CompareAndSwapInt32", "internal/race.Enable", "internal/race.Acquire", "(*internal/sync.Mutex).lockSlow", "internal/sync.runtime_canSpin", "internal/sync.runtime_doSpin", "internal/sync.throw", "internal/sync.runtime_nanotime", "internal/sync.runtime_SemacquireMutex", "sync/atomic.AddInt32", "(*internal/sync.Mutex).Unlock", "internal/race.ReleaseMerge", "(*internal/sync.Mutex).unlockSlow", "internal/sync.fatal", "internal/sync.runtime_Semrelease", "sync/atomic.StoreUint32"], unfollowed := true, recurses := true, apart := false }
def FnTailsSaid : Prop := fnTailsRow.holds Try.pinned (OpenSpec.ofChange fnTailsSpec)

/-- ITS FALSE NEIGHBOUR: 'it returns false'. Refute it at one input. -/
def fnTailsWrong : ChangeSpec := { name := "fnTails", fn := fun _ => fun
  | [d] => { results := [.lit (.bool false)], args := [d] }
  | _ => none }
def FnTailsWrongFalsely : Prop := fnTailsRow.holds Try.pinned (OpenSpec.ofChange fnTailsWrong)

/-- 'laws.FnThresholds': WHATEVER THE INPUT: true; the input reads as it did. -/
def fnThresholdsSpec : ChangeSpec := { name := "fnThresholds", fn := fun _ => fun
  | [d] => { results := [.lit (.bool true)], args := [d] }
  | _ => none }
def fnThresholdsRow : OpenClaim := { program := "ytgdnapioboodbaa", sum := "f38beb768f257e5c6dc0984d9477bed2e6193b96a56821e0028fed1b7bc91aab", func := "loop.example/g00915/laws.FnThresholds", spec := "fnThresholds", inPlace := ["sync/atomic.LoadUint32", "(*internal/sync.Mutex).Lock", "internal/race.Disable", "sync/atomic.CompareAndSwapInt32", "internal/race.Enable", "internal/race.Acquire", "(*internal/sync.Mutex).lockSlow", "internal/sync.runtime_canSpin", "internal/sync.runtime_doSpin", "internal/sync.throw", "internal/sync.runtime_nanotime", "internal/sync.runtime_SemacquireMutex", "sync/atomic.AddInt32", "(*internal/sync.Mutex).Unlock", "internal/race.ReleaseMerge", "(*internal/sync.Mutex).unlockSlow", "internal/sync.fatal", "internal/sync.runtime_Semrelease", "sync/atomic.StoreUint32"], unfollowed := true, recurses := true, apart := false }
def FnThresholdsSaid : Prop := fnThresholdsRow.holds Try.pinned (OpenSpec.ofChange fnThresholdsSpec)

/-- ITS FALSE NEIGHBOUR: 'it returns false'. Refute it at one input. -/
def fnThresholdsWrong : ChangeSpec := { name := "fnThresholds", fn := fun _ => fun
  | [d] => { results := [.lit (.bool false)], args := [d] }
  | _ => none }
def FnThresholdsWrongFalsely : Prop := fnThresholdsRow.holds Try.pinned (OpenSpec.ofChange fnThresholdsWrong)

/-- 'laws.FnConfirmedPatterns': WHATEVER THE INPUT: true; the input reads as it did. -/
def fnConfirmedPatternsSpec : ChangeSpec := { name := "fnConfirmedPatterns", fn := fun _ => fun
  | [d] => { results := [.lit (.bool true)], args := [d] }
  | _ => none }
def fnConfirmedPatternsRow : OpenClaim := { program := "ytgdnapioboodbaa", sum := "f38beb768f257e5c6dc0984d9477bed2e6193b96a56821e0028fed1b7bc91aab", func := "loop.example/g00915/laws.FnConfirmedPatterns", spec := "fnConfirmedPatterns", inPlace := ["sync/atomic.LoadUint32", "(*internal/sync.Mutex).Lock", "internal/race.Disable", "sync/atomic.CompareAndSwapInt32", "internal/race.Enable", "internal/race.Acquire", "(*internal/sync.Mutex).lockSlow", "internal/sync.runtime_canSpin", "internal/sync.runtime_doSpin", "internal/sync.throw", "internal/sync.runtime_nanotime", "internal/sync.runtime_SemacquireMutex", "sync/atomic.AddInt32", "(*internal/sync.Mutex).Unlock", "internal/race.ReleaseMerge", "(*internal/sync.Mutex).unlockSlow", "internal/sync.fatal", "internal/sync.runtime_Semrelease", "sync/atomic.StoreUint32"], unfollowed := true, recurses := true, apart := false }
def FnConfirmedPatternsSaid : Prop := fnConfirmedPatternsRow.holds Try.pinned (OpenSpec.ofChange fnConfirmedPatternsSpec)

/-- ITS FALSE NEIGHBOUR: 'it returns false'. Refute it at one input. -/
def fnConfirmedPatternsWrong : ChangeSpec := { name := "fnConfirmedPatterns", fn := fun _ => fun
  | [d] => { results := [.lit (.bool false)], args := [d] }
  | _ => none }
def FnConfirmedPatternsWrongFalsely : Prop := fnConfirmedPatternsRow.holds Try.pinned (OpenSpec.ofChange fnConfirmedPatternsWrong)

/-- 'laws.FnExactCaseCount': WHATEVER THE INPUT: true; the input reads as it did. -/
def fnExactCaseCountSpec : ChangeSpec := { name := "fnExactCaseCount", fn := fun _ => fun
  | [d] => { results := [.lit (.bool true)], args := [d] }
  | _ => none }
def fnExactCaseCountRow : OpenClaim := { program := "ytgdnapioboodbaa", sum := "f38beb768f257e5c6dc0984d9477bed2e6193b96a56821e0028fed1b7bc91aab", func := "loop.example/g00915/laws.FnExactCaseCount", spec := "fnExactCaseCount", apart := false }
def FnExactCaseCountSaid : Prop := fnExactCaseCountRow.holds Try.pinned (OpenSpec.ofChange fnExactCaseCountSpec)

/-- ITS FALSE NEIGHBOUR: 'it returns false'. Refute it at one input. -/
def fnExactCaseCountWrong : ChangeSpec := { name := "fnExactCaseCount", fn := fun _ => fun
  | [d] => { results := [.lit (.bool false)], args := [d] }
  | _ => none }
def FnExactCaseCountWrongFalsely : Prop := fnExactCaseCountRow.holds Try.pinned (OpenSpec.ofChange fnExactCaseCountWrong)

/-- 'laws.FnExactTailCount': WHATEVER THE INPUT: true; the input reads as it did. -/
def fnExactTailCountSpec : ChangeSpec := { name := "fnExactTailCount", fn := fun _ => fun
  | [d1, d2, d3] => { results := [.lit (.bool true)], args := [d1, d2, d3] }
  | _ => none }
def fnExactTailCountRow : OpenClaim := { program := "ytgdnapioboodbaa", sum := "f38beb768f257e5c6dc0984d9477bed2e6193b96a56821e0028fed1b7bc91aab", func := "loop.example/g00915/laws.FnExactTailCount", spec := "fnExactTailCount", inPlace := ["sync/atomic.LoadUint32", "(*internal/sync.Mutex).Lock", "internal/race.Disable", "sync/atomic.CompareAndSwapInt32", "internal/race.Enable", "internal/race.Acquire", "(*internal/sync.Mutex).lockSlow", "internal/sync.runtime_canSpin", "internal/sync.runtime_doSpin", "internal/sync.throw", "internal/sync.runtime_nanotime", "internal/sync.runtime_SemacquireMutex", "sync/atomic.AddInt32", "(*internal/sync.Mutex).Unlock", "internal/race.ReleaseMerge", "(*internal/sync.Mutex).unlockSlow", "internal/sync.fatal", "internal/sync.runtime_Semrelease", "sync/atomic.StoreUint32"], unfollowed := true, recurses := true, apart := false }
def FnExactTailCountSaid : Prop := fnExactTailCountRow.holds Try.pinned (OpenSpec.ofChange fnExactTailCountSpec)

/-- ITS FALSE NEIGHBOUR: 'it returns false'. Refute it at one input. -/
def fnExactTailCountWrong : ChangeSpec := { name := "fnExactTailCount", fn := fun _ => fun
  | [d1, d2, d3] => { results := [.lit (.bool false)], args := [d1, d2, d3] }
  | _ => none }
def FnExactTailCountWrongFalsely : Prop := fnExactTailCountRow.holds Try.pinned (OpenSpec.ofChange fnExactTailCountWrong)

/-- 'laws.FnExactLeastThreshold': WHATEVER THE INPUT: true; the input reads as it did. -/
def fnExactLeastThresholdSpec : ChangeSpec := { name := "fnExactLeastThreshold", fn := fun _ => fun
  | [d1, d2, d3, d4] => { results := [.lit (.bool true)], args := [d1, d2, d3, d4] }
  | _ => none }
def fnExactLeastThresholdRow : OpenClaim := { program := "ytgdnapioboodbaa", sum := "f38beb768f257e5c6dc0984d9477bed2e6193b96a56821e0028fed1b7bc91aab", func := "loop.example/g00915/laws.FnExactLeastThreshold", spec := "fnExactLeastThreshold", inPlace := ["sync/atomic.LoadUint32", "(*internal/sync.Mutex).Lock", "internal/race.Disable", "sync/atomic.CompareAndSwapInt32", "internal/race.Enable", "internal/race.Acquire", "(*internal/sync.Mutex).lockSlow", "internal/sync.runtime_canSpin", "internal/sync.runtime_doSpin", "internal/sync.throw", "internal/sync.runtime_nanotime", "internal/sync.runtime_SemacquireMutex", "sync/atomic.AddInt32", "(*internal/sync.Mutex).Unlock", "internal/race.ReleaseMerge", "(*internal/sync.Mutex).unlockSlow", "internal/sync.fatal", "internal/sync.runtime_Semrelease", "sync/atomic.StoreUint32"], unfollowed := true, recurses := true, apart := false }
def FnExactLeastThresholdSaid : Prop := fnExactLeastThresholdRow.holds Try.pinned (OpenSpec.ofChange fnExactLeastThresholdSpec)

/-- ITS FALSE NEIGHBOUR: 'it returns false'. Refute it at one input. -/
def fnExactLeastThresholdWrong : ChangeSpec := { name := "fnExactLeastThreshold", fn := fun _ => fun
  | [d1, d2, d3, d4] => { results := [.lit (.bool false)], args := [d1, d2, d3, d4] }
  | _ => none }
def FnExactLeastThresholdWrongFalsely : Prop := fnExactLeastThresholdRow.holds Try.pinned (OpenSpec.ofChange fnExactLeastThresholdWrong)

/-- 'laws.FnExactBestThreshold': WHATEVER THE INPUT: true; the input reads as it did. -/
def fnExactBestThresholdSpec : ChangeSpec := { name := "fnExactBestThreshold", fn := fun _ => fun
  | [d1, d2, d3] => { results := [.lit (.bool true)], args := [d1, d2, d3] }
  | _ => none }
def fnExactBestThresholdRow : OpenClaim := { program := "ytgdnapioboodbaa", sum := "f38beb768f257e5c6dc0984d9477bed2e6193b96a56821e0028fed1b7bc91aab", func := "loop.example/g00915/laws.FnExactBestThreshold", spec := "fnExactBestThreshold", inPlace := ["sync/atomic.LoadUint32", "(*internal/sync.Mutex).Lock", "internal/race.Disable", "sync/atomic.CompareAndSwapInt32", "internal/race.Enable", "internal/race.Acquire", "(*internal/sync.Mutex).lockSlow", "internal/sync.runtime_canSpin", "internal/sync.runtime_doSpin", "internal/sync.throw", "internal/sync.runtime_nanotime", "internal/sync.runtime_SemacquireMutex", "sync/atomic.AddInt32", "(*internal/sync.Mutex).Unlock", "internal/race.ReleaseMerge", "(*internal/sync.Mutex).unlockSlow", "internal/sync.fatal", "internal/sync.runtime_Semrelease", "sync/atomic.StoreUint32"], unfollowed := true, recurses := true, apart := false }
def FnExactBestThresholdSaid : Prop := fnExactBestThresholdRow.holds Try.pinned (OpenSpec.ofChange fnExactBestThresholdSpec)

/-- ITS FALSE NEIGHBOUR: 'it returns false'. Refute it at one input. -/
def fnExactBestThresholdWrong : ChangeSpec := { name := "fnExactBestThreshold", fn := fun _ => fun
  | [d1, d2, d3] => { results := [.lit (.bool false)], args := [d1, d2, d3] }
  | _ => none }
def FnExactBestThresholdWrongFalsely : Prop := fnExactBestThresholdRow.holds Try.pinned (OpenSpec.ofChange fnExactBestThresholdWrong)

/-- 'laws.FnExactLeastTrials': WHATEVER THE INPUT: true; the input reads as it did. -/
def fnExactLeastTrialsSpec : ChangeSpec := { name := "fnExactLeastTrials", fn := fun _ => fun
  | [d1, d2, d3] => { results := [.lit (.bool true)], args := [d1, d2, d3] }
  | _ => none }
def fnExactLeastTrialsRow : OpenClaim := { program := "ytgdnapioboodbaa", sum := "f38beb768f257e5c6dc0984d9477bed2e6193b96a56821e0028fed1b7bc91aab", func := "loop.example/g00915/laws.FnExactLeastTrials", spec := "fnExactLeastTrials", inPlace := ["sync/atomic.LoadUint32", "(*internal/sync.Mutex).Lock", "internal/race.Disable", "sync/atomic.CompareAndSwapInt32", "internal/race.Enable", "internal/race.Acquire", "(*internal/sync.Mutex).lockSlow", "internal/sync.runtime_canSpin", "internal/sync.runtime_doSpin", "internal/sync.throw", "internal/sync.runtime_nanotime", "internal/sync.runtime_SemacquireMutex", "sync/atomic.AddInt32", "(*internal/sync.Mutex).Unlock", "internal/race.ReleaseMerge", "(*internal/sync.Mutex).unlockSlow", "internal/sync.fatal", "internal/sync.runtime_Semrelease", "sync/atomic.StoreUint32"], unfollowed := true, recurses := true, apart := false }
def FnExactLeastTrialsSaid : Prop := fnExactLeastTrialsRow.holds Try.pinned (OpenSpec.ofChange fnExactLeastTrialsSpec)

/-- ITS FALSE NEIGHBOUR: 'it returns false'. Refute it at one input. -/
def fnExactLeastTrialsWrong : ChangeSpec := { name := "fnExactLeastTrials", fn := fun _ => fun
  | [d1, d2, d3] => { results := [.lit (.bool false)], args := [d1, d2, d3] }
  | _ => none }
def FnExactLeastTrialsWrongFalsely : Prop := fnExactLeastTrialsRow.holds Try.pinned (OpenSpec.ofChange fnExactLeastTrialsWrong)

/-- 'laws.FnExactConfirmScan': WHATEVER THE INPUT: true; the input reads as it did. -/
def fnExactConfirmScanSpec : ChangeSpec := { name := "fnExactConfirmScan", fn := fun _ => fun
  | [d1, d2, d3] => { results := [.lit (.bool true)], args := [d1, d2, d3] }
  | _ => none }
def fnExactConfirmScanRow : OpenClaim := { program := "ytgdnapioboodbaa", sum := "f38beb768f257e5c6dc0984d9477bed2e6193b96a56821e0028fed1b7bc91aab", func := "loop.example/g00915/laws.FnExactConfirmScan", spec := "fnExactConfirmScan", unfollowed := true, recurses := true, apart := false }
def FnExactConfirmScanSaid : Prop := fnExactConfirmScanRow.holds Try.pinned (OpenSpec.ofChange fnExactConfirmScanSpec)

/-- ITS FALSE NEIGHBOUR: 'it returns false'. Refute it at one input. -/
def fnExactConfirmScanWrong : ChangeSpec := { name := "fnExactConfirmScan", fn := fun _ => fun
  | [d1, d2, d3] => { results := [.lit (.bool false)], args := [d1, d2, d3] }
  | _ => none }
def FnExactConfirmScanWrongFalsely : Prop := fnExactConfirmScanRow.holds Try.pinned (OpenSpec.ofChange fnExactConfirmScanWrong)

/-- 'laws.FnExactConfirmCount': WHATEVER THE INPUT: true; the input reads as it did. -/
def fnExactConfirmCountSpec : ChangeSpec := { name := "fnExactConfirmCount", fn := fun _ => fun
  | [d1, d2, d3, d4] => { results := [.lit (.bool true)], args := [d1, d2, d3, d4] }
  | _ => none }
def fnExactConfirmCountRow : OpenClaim := { program := "ytgdnapioboodbaa", sum := "f38beb768f257e5c6dc0984d9477bed2e6193b96a56821e0028fed1b7bc91aab", func := "loop.example/g00915/laws.FnExactConfirmCount", spec := "fnExactConfirmCount", unfollowed := true, recurses := true, apart := false }
def FnExactConfirmCountSaid : Prop := fnExactConfirmCountRow.holds Try.pinned (OpenSpec.ofChange fnExactConfirmCountSpec)

/-- ITS FALSE NEIGHBOUR: 'it returns false'. Refute it at one input. -/
def fnExactConfirmCountWrong : ChangeSpec := { name := "fnExactConfirmCount", fn := fun _ => fun
  | [d1, d2, d3, d4] => { results := [.lit (.bool false)], args := [d1, d2, d3, d4] }
  | _ => none }
def FnExactConfirmCountWrongFalsely : Prop := fnExactConfirmCountRow.holds Try.pinned (OpenSpec.ofChange fnExactConfirmCountWrong)

/-- 'laws.FnExactConfirmPatterns': WHATEVER THE INPUT: true; the input reads as it did. -/
def fnExactConfirmPatternsSpec : ChangeSpec := { name := "fnExactConfirmPatterns", fn := fun _ => fun
  | [d1, d2, d3] => { results := [.lit (.bool true)], args := [d1, d2, d3] }
  | _ => none }
def fnExactConfirmPatternsRow : OpenClaim := { program := "ytgdnapioboodbaa", sum := "f38beb768f257e5c6dc0984d9477bed2e6193b96a56821e0028fed1b7bc91aab", func := "loop.example/g00915/laws.FnExactConfirmPatterns", spec := "fnExactConfirmPatterns", recurses := true, apart := false }
def FnExactConfirmPatternsSaid : Prop := fnExactConfirmPatternsRow.holds Try.pinned (OpenSpec.ofChange fnExactConfirmPatternsSpec)

/-- ITS FALSE NEIGHBOUR: 'it returns false'. Refute it at one input. -/
def fnExactConfirmPatternsWrong : ChangeSpec := { name := "fnExactConfirmPatterns", fn := fun _ => fun
  | [d1, d2, d3] => { results := [.lit (.bool false)], args := [d1, d2, d3] }
  | _ => none }
def FnExactConfirmPatternsWrongFalsely : Prop := fnExactConfirmPatternsRow.holds Try.pinned (OpenSpec.ofChange fnExactConfirmPatternsWrong)

/- THE SECOND FORM. 'bulk': how many values and letters a reading holds, each counted each time it is reached (what is shared counts as often as it is met; a slice's spare places count too). A statement '..UptoSaid' is the law's where the arguments, and the package variables that the reading takes, are together of bulk at most 1048576: NARROWER than '..Said'. Prove '..Said' where nothing that the law and all that it calls make is longer than what came in: it says more and counts as full. Else prove '..UptoSaid'. A law counts once. -/
mutual
def uptoBulk {H : Type} : DataW H → Nat
  | .lit (.string bytes) => bytes.length + 1
  | .lit _ => 1
  | .nil => 1
  | .ptr d => uptoBulk d + 1
  | .slice elems spare => uptoBulkAll elems + uptoBulkAll spare + 1
  | .agg parts => uptoBulkAll parts + 1
  | .iface _ d => uptoBulk d + 1
  | .map entries => uptoBulkEntries entries + 1
  | .held _ => 1
def uptoBulkAll {H : Type} : List (DataW H) → Nat
  | [] => 0
  | d :: r => uptoBulk d + uptoBulkAll r
def uptoBulkEntries {H : Type} : List (Lit × DataW H) → Nat
  | [] => 0
  | x :: r => uptoBulkEntry x + uptoBulkEntries r
def uptoBulkEntry {H : Type} : Lit × DataW H → Nat
  | (.string bytes, d) => bytes.length + uptoBulk d + 1
  | (_, d) => uptoBulk d + 1
 end
def uptoSmall : (H : Type) → List (DataW H) → Bool := fun _ ds => decide (uptoBulkAll ds ≤ 1048576)
def OpenSpec.upto (s : _root_.Go.ChangeSpec) : _root_.Go.OpenSpec := { _root_.Go.OpenSpec.ofChange s with cond := some uptoSmall }

/-- 'laws.FnTails', WHERE WHAT IT READS IS OF BULK AT MOST 1048576: true; the input reads as it did. -/
def fnTailsUptoRow : OpenClaim := { program := "ytgdnapioboodbaa", sum := "f38beb768f257e5c6dc0984d9477bed2e6193b96a56821e0028fed1b7bc91aab", func := "loop.example/g00915/laws.FnTails", spec := "fnTails", inPlace := ["sync/atomic.LoadUint32", "(*internal/sync.Mutex).Lock", "internal/race.Disable", "sync/atomic.CompareAndSwapInt32", "internal/race.Enable", "internal/race.Acquire", "(*internal/sync.Mutex).lockSlow", "internal/sync.runtime_canSpin", "internal/sync.runtime_doSpin", "internal/sync.throw", "internal/sync.runtime_nanotime", "internal/sync.runtime_SemacquireMutex", "sync/atomic.AddInt32", "(*internal/sync.Mutex).Unlock", "internal/race.ReleaseMerge", "(*internal/sync.Mutex).unlockSlow", "internal/sync.fatal", "internal/sync.runtime_Semrelease", "sync/atomic.StoreUint32"], unfollowed := true, recurses := true, apart := false, narrowed := true }
def FnTailsUptoSaid : Prop := fnTailsUptoRow.holds Try.pinned (OpenSpec.upto fnTailsSpec)

/-- 'laws.FnThresholds', WHERE WHAT IT READS IS OF BULK AT MOST 1048576: true; the input reads as it did. -/
def fnThresholdsUptoRow : OpenClaim := { program := "ytgdnapioboodbaa", sum := "f38beb768f257e5c6dc0984d9477bed2e6193b96a56821e0028fed1b7bc91aab", func := "loop.example/g00915/laws.FnThresholds", spec := "fnThresholds", inPlace := ["sync/atomic.LoadUint32", "(*internal/sync.Mutex).Lock", "internal/race.Disable", "sync/atomic.CompareAndSwapInt32", "internal/race.Enable", "internal/race.Acquire", "(*internal/sync.Mutex).lockSlow", "internal/sync.runtime_canSpin", "internal/sync.runtime_doSpin", "internal/sync.throw", "internal/sync.runtime_nanotime", "internal/sync.runtime_SemacquireMutex", "sync/atomic.AddInt32", "(*internal/sync.Mutex).Unlock", "internal/race.ReleaseMerge", "(*internal/sync.Mutex).unlockSlow", "internal/sync.fatal", "internal/sync.runtime_Semrelease", "sync/atomic.StoreUint32"], unfollowed := true, recurses := true, apart := false, narrowed := true }
def FnThresholdsUptoSaid : Prop := fnThresholdsUptoRow.holds Try.pinned (OpenSpec.upto fnThresholdsSpec)

/-- 'laws.FnConfirmedPatterns', WHERE WHAT IT READS IS OF BULK AT MOST 1048576: true; the input reads as it did. -/
def fnConfirmedPatternsUptoRow : OpenClaim := { program := "ytgdnapioboodbaa", sum := "f38beb768f257e5c6dc0984d9477bed2e6193b96a56821e0028fed1b7bc91aab", func := "loop.example/g00915/laws.FnConfirmedPatterns", spec := "fnConfirmedPatterns", inPlace := ["sync/atomic.LoadUint32", "(*internal/sync.Mutex).Lock", "internal/race.Disable", "sync/atomic.CompareAndSwapInt32", "internal/race.Enable", "internal/race.Acquire", "(*internal/sync.Mutex).lockSlow", "internal/sync.runtime_canSpin", "internal/sync.runtime_doSpin", "internal/sync.throw", "internal/sync.runtime_nanotime", "internal/sync.runtime_SemacquireMutex", "sync/atomic.AddInt32", "(*internal/sync.Mutex).Unlock", "internal/race.ReleaseMerge", "(*internal/sync.Mutex).unlockSlow", "internal/sync.fatal", "internal/sync.runtime_Semrelease", "sync/atomic.StoreUint32"], unfollowed := true, recurses := true, apart := false, narrowed := true }
def FnConfirmedPatternsUptoSaid : Prop := fnConfirmedPatternsUptoRow.holds Try.pinned (OpenSpec.upto fnConfirmedPatternsSpec)

/-- 'laws.FnExactCaseCount', WHERE WHAT IT READS IS OF BULK AT MOST 1048576: true; the input reads as it did. -/
def fnExactCaseCountUptoRow : OpenClaim := { program := "ytgdnapioboodbaa", sum := "f38beb768f257e5c6dc0984d9477bed2e6193b96a56821e0028fed1b7bc91aab", func := "loop.example/g00915/laws.FnExactCaseCount", spec := "fnExactCaseCount", apart := false, narrowed := true }
def FnExactCaseCountUptoSaid : Prop := fnExactCaseCountUptoRow.holds Try.pinned (OpenSpec.upto fnExactCaseCountSpec)

/-- 'laws.FnExactTailCount', WHERE WHAT IT READS IS OF BULK AT MOST 1048576: true; the input reads as it did. -/
def fnExactTailCountUptoRow : OpenClaim := { program := "ytgdnapioboodbaa", sum := "f38beb768f257e5c6dc0984d9477bed2e6193b96a56821e0028fed1b7bc91aab", func := "loop.example/g00915/laws.FnExactTailCount", spec := "fnExactTailCount", inPlace := ["sync/atomic.LoadUint32", "(*internal/sync.Mutex).Lock", "internal/race.Disable", "sync/atomic.CompareAndSwapInt32", "internal/race.Enable", "internal/race.Acquire", "(*internal/sync.Mutex).lockSlow", "internal/sync.runtime_canSpin", "internal/sync.runtime_doSpin", "internal/sync.throw", "internal/sync.runtime_nanotime", "internal/sync.runtime_SemacquireMutex", "sync/atomic.AddInt32", "(*internal/sync.Mutex).Unlock", "internal/race.ReleaseMerge", "(*internal/sync.Mutex).unlockSlow", "internal/sync.fatal", "internal/sync.runtime_Semrelease", "sync/atomic.StoreUint32"], unfollowed := true, recurses := true, apart := false, narrowed := true }
def FnExactTailCountUptoSaid : Prop := fnExactTailCountUptoRow.holds Try.pinned (OpenSpec.upto fnExactTailCountSpec)

/-- 'laws.FnExactLeastThreshold', WHERE WHAT IT READS IS OF BULK AT MOST 1048576: true; the input reads as it did. -/
def fnExactLeastThresholdUptoRow : OpenClaim := { program := "ytgdnapioboodbaa", sum := "f38beb768f257e5c6dc0984d9477bed2e6193b96a56821e0028fed1b7bc91aab", func := "loop.example/g00915/laws.FnExactLeastThreshold", spec := "fnExactLeastThreshold", inPlace := ["sync/atomic.LoadUint32", "(*internal/sync.Mutex).Lock", "internal/race.Disable", "sync/atomic.CompareAndSwapInt32", "internal/race.Enable", "internal/race.Acquire", "(*internal/sync.Mutex).lockSlow", "internal/sync.runtime_canSpin", "internal/sync.runtime_doSpin", "internal/sync.throw", "internal/sync.runtime_nanotime", "internal/sync.runtime_SemacquireMutex", "sync/atomic.AddInt32", "(*internal/sync.Mutex).Unlock", "internal/race.ReleaseMerge", "(*internal/sync.Mutex).unlockSlow", "internal/sync.fatal", "internal/sync.runtime_Semrelease", "sync/atomic.StoreUint32"], unfollowed := true, recurses := true, apart := false, narrowed := true }
def FnExactLeastThresholdUptoSaid : Prop := fnExactLeastThresholdUptoRow.holds Try.pinned (OpenSpec.upto fnExactLeastThresholdSpec)

/-- 'laws.FnExactBestThreshold', WHERE WHAT IT READS IS OF BULK AT MOST 1048576: true; the input reads as it did. -/
def fnExactBestThresholdUptoRow : OpenClaim := { program := "ytgdnapioboodbaa", sum := "f38beb768f257e5c6dc0984d9477bed2e6193b96a56821e0028fed1b7bc91aab", func := "loop.example/g00915/laws.FnExactBestThreshold", spec := "fnExactBestThreshold", inPlace := ["sync/atomic.LoadUint32", "(*internal/sync.Mutex).Lock", "internal/race.Disable", "sync/atomic.CompareAndSwapInt32", "internal/race.Enable", "internal/race.Acquire", "(*internal/sync.Mutex).lockSlow", "internal/sync.runtime_canSpin", "internal/sync.runtime_doSpin", "internal/sync.throw", "internal/sync.runtime_nanotime", "internal/sync.runtime_SemacquireMutex", "sync/atomic.AddInt32", "(*internal/sync.Mutex).Unlock", "internal/race.ReleaseMerge", "(*internal/sync.Mutex).unlockSlow", "internal/sync.fatal", "internal/sync.runtime_Semrelease", "sync/atomic.StoreUint32"], unfollowed := true, recurses := true, apart := false, narrowed := true }
def FnExactBestThresholdUptoSaid : Prop := fnExactBestThresholdUptoRow.holds Try.pinned (OpenSpec.upto fnExactBestThresholdSpec)

/-- 'laws.FnExactLeastTrials', WHERE WHAT IT READS IS OF BULK AT MOST 1048576: true; the input reads as it did. -/
def fnExactLeastTrialsUptoRow : OpenClaim := { program := "ytgdnapioboodbaa", sum := "f38beb768f257e5c6dc0984d9477bed2e6193b96a56821e0028fed1b7bc91aab", func := "loop.example/g00915/laws.FnExactLeastTrials", spec := "fnExactLeastTrials", inPlace := ["sync/atomic.LoadUint32", "(*internal/sync.Mutex).Lock", "internal/race.Disable", "sync/atomic.CompareAndSwapInt32", "internal/race.Enable", "internal/race.Acquire", "(*internal/sync.Mutex).lockSlow", "internal/sync.runtime_canSpin", "internal/sync.runtime_doSpin", "internal/sync.throw", "internal/sync.runtime_nanotime", "internal/sync.runtime_SemacquireMutex", "sync/atomic.AddInt32", "(*internal/sync.Mutex).Unlock", "internal/race.ReleaseMerge", "(*internal/sync.Mutex).unlockSlow", "internal/sync.fatal", "internal/sync.runtime_Semrelease", "sync/atomic.StoreUint32"], unfollowed := true, recurses := true, apart := false, narrowed := true }
def FnExactLeastTrialsUptoSaid : Prop := fnExactLeastTrialsUptoRow.holds Try.pinned (OpenSpec.upto fnExactLeastTrialsSpec)

/-- 'laws.FnExactConfirmScan', WHERE WHAT IT READS IS OF BULK AT MOST 1048576: true; the input reads as it did. -/
def fnExactConfirmScanUptoRow : OpenClaim := { program := "ytgdnapioboodbaa", sum := "f38beb768f257e5c6dc0984d9477bed2e6193b96a56821e0028fed1b7bc91aab", func := "loop.example/g00915/laws.FnExactConfirmScan", spec := "fnExactConfirmScan", unfollowed := true, recurses := true, apart := false, narrowed := true }
def FnExactConfirmScanUptoSaid : Prop := fnExactConfirmScanUptoRow.holds Try.pinned (OpenSpec.upto fnExactConfirmScanSpec)

/-- 'laws.FnExactConfirmCount', WHERE WHAT IT READS IS OF BULK AT MOST 1048576: true; the input reads as it did. -/
def fnExactConfirmCountUptoRow : OpenClaim := { program := "ytgdnapioboodbaa", sum := "f38beb768f257e5c6dc0984d9477bed2e6193b96a56821e0028fed1b7bc91aab", func := "loop.example/g00915/laws.FnExactConfirmCount", spec := "fnExactConfirmCount", unfollowed := true, recurses := true, apart := false, narrowed := true }
def FnExactConfirmCountUptoSaid : Prop := fnExactConfirmCountUptoRow.holds Try.pinned (OpenSpec.upto fnExactConfirmCountSpec)

/-- 'laws.FnExactConfirmPatterns', WHERE WHAT IT READS IS OF BULK AT MOST 1048576: true; the input reads as it did. -/
def fnExactConfirmPatternsUptoRow : OpenClaim := { program := "ytgdnapioboodbaa", sum := "f38beb768f257e5c6dc0984d9477bed2e6193b96a56821e0028fed1b7bc91aab", func := "loop.example/g00915/laws.FnExactConfirmPatterns", spec := "fnExactConfirmPatterns", recurses := true, apart := false, narrowed := true }
def FnExactConfirmPatternsUptoSaid : Prop := fnExactConfirmPatternsUptoRow.holds Try.pinned (OpenSpec.upto fnExactConfirmPatternsSpec)

end Rows
end Go.Proofs.Ytgdnapioboodbaa
