/-
  No cell of these rows narrows 'for every input' (looked for: loops, veiled, ifaces, maps, wideKeys, modest, calm, conditions, laid).
  DERIVED. THE GIVEN ROWS OF THIS SEAT. 11 by the template 'for every input the law returns true; each argument reads behind the call as it read before'; 0 by the template 'total and deterministic' (their statements: YtdkiikmmlfdlcaaTotals.lean).
  GIVEN WITH THE SEED: the statements are not yours to turn. If you find one false, say at which input.
  Laid BY PROGRAM, IN A SANDBOX (cutbox-rows.mjs): the forced cells as the released guide's own fill.sh prints them over the translation cc8a33a908db592f… (all of the seat's roots in one cut). By AI agents, Wed Nov 11 2026. No macro, syntax, notation, axiom, sorry.
-/
import Derived.Test.YtdkiikmmlfdlcaaChecked
import GoSem.Claim
import GoSem.ClaimJoined
import GoSem.ClaimMapViews
import Derived.JoinedTies
import Derived.KernelRfl
namespace Go.Proofs.Ytdkiikmmlfdlcaa
/- THE CELL 'sum', in the pinned program and in every row, IS THE sha256 OF THE DUMP (.gsa) THAT YtdkiikmmlfdlcaaProg.lean LOADS. Nothing in Lean hashes anything: it is a label: what it is worth is what the hold of that sum in a sandbox is worth. -/
noncomputable def Try.pinned : Pinned := { name := "ytdkiikmmlfdlcaa", sum := "cc8a33a908db592f67ee7e33ed530711efb2cace0bdeb2a6478a11204ae108e1", checked := Try.checked }
namespace Rows
def none {H : Type} : Left H := { results := [], args := [] }

/-- 'laws.FnMotions': WHATEVER THE INPUT: true; the input reads as it did. -/
def fnMotionsSpec : ChangeSpec := { name := "fnMotions", fn := fun _ => fun
  | [d] => { results := [.lit (.bool true)], args := [d] }
  | _ => none }
def fnMotionsRow : OpenClaim := { program := "ytdkiikmmlfdlcaa", sum := "cc8a33a908db592f67ee7e33ed530711efb2cace0bdeb2a6478a11204ae108e1", func := "loop.example/g00915/laws.FnMotions", spec := "fnMotions", unfollowed := true, recurses := true, apart := false }
def FnMotionsSaid : Prop := fnMotionsRow.holds Try.pinned (OpenSpec.ofChange fnMotionsSpec)

/-- ITS FALSE NEIGHBOUR: 'it returns false'. Refute it at one input. -/
def fnMotionsWrong : ChangeSpec := { name := "fnMotions", fn := fun _ => fun
  | [d] => { results := [.lit (.bool false)], args := [d] }
  | _ => none }
def FnMotionsWrongFalsely : Prop := fnMotionsRow.holds Try.pinned (OpenSpec.ofChange fnMotionsWrong)

/-- 'laws.FnGates': WHATEVER THE INPUT: true; the input reads as it did. -/
def fnGatesSpec : ChangeSpec := { name := "fnGates", fn := fun _ => fun
  | [d] => { results := [.lit (.bool true)], args := [d] }
  | _ => none }
def fnGatesRow : OpenClaim := { program := "ytdkiikmmlfdlcaa", sum := "cc8a33a908db592f67ee7e33ed530711efb2cace0bdeb2a6478a11204ae108e1", func := "loop.example/g00915/laws.FnGates", spec := "fnGates", unfollowed := true, recurses := true, apart := false }
def FnGatesSaid : Prop := fnGatesRow.holds Try.pinned (OpenSpec.ofChange fnGatesSpec)

/-- ITS FALSE NEIGHBOUR: 'it returns false'. Refute it at one input. -/
def fnGatesWrong : ChangeSpec := { name := "fnGates", fn := fun _ => fun
  | [d] => { results := [.lit (.bool false)], args := [d] }
  | _ => none }
def FnGatesWrongFalsely : Prop := fnGatesRow.holds Try.pinned (OpenSpec.ofChange fnGatesWrong)

/-- 'laws.FnExactIsMotion': WHATEVER THE INPUT: true; the input reads as it did. -/
def fnExactIsMotionSpec : ChangeSpec := { name := "fnExactIsMotion", fn := fun _ => fun
  | [d] => { results := [.lit (.bool true)], args := [d] }
  | _ => none }
def fnExactIsMotionRow : OpenClaim := { program := "ytdkiikmmlfdlcaa", sum := "cc8a33a908db592f67ee7e33ed530711efb2cace0bdeb2a6478a11204ae108e1", func := "loop.example/g00915/laws.FnExactIsMotion", spec := "fnExactIsMotion", unfollowed := true, recurses := true, apart := false }
def FnExactIsMotionSaid : Prop := fnExactIsMotionRow.holds Try.pinned (OpenSpec.ofChange fnExactIsMotionSpec)

/-- ITS FALSE NEIGHBOUR: 'it returns false'. Refute it at one input. -/
def fnExactIsMotionWrong : ChangeSpec := { name := "fnExactIsMotion", fn := fun _ => fun
  | [d] => { results := [.lit (.bool false)], args := [d] }
  | _ => none }
def FnExactIsMotionWrongFalsely : Prop := fnExactIsMotionRow.holds Try.pinned (OpenSpec.ofChange fnExactIsMotionWrong)

/-- 'laws.FnExactAreContacts': WHATEVER THE INPUT: true; the input reads as it did. -/
def fnExactAreContactsSpec : ChangeSpec := { name := "fnExactAreContacts", fn := fun _ => fun
  | [d] => { results := [.lit (.bool true)], args := [d] }
  | _ => none }
def fnExactAreContactsRow : OpenClaim := { program := "ytdkiikmmlfdlcaa", sum := "cc8a33a908db592f67ee7e33ed530711efb2cace0bdeb2a6478a11204ae108e1", func := "loop.example/g00915/laws.FnExactAreContacts", spec := "fnExactAreContacts", unfollowed := true, recurses := true, apart := false }
def FnExactAreContactsSaid : Prop := fnExactAreContactsRow.holds Try.pinned (OpenSpec.ofChange fnExactAreContactsSpec)

/-- ITS FALSE NEIGHBOUR: 'it returns false'. Refute it at one input. -/
def fnExactAreContactsWrong : ChangeSpec := { name := "fnExactAreContacts", fn := fun _ => fun
  | [d] => { results := [.lit (.bool false)], args := [d] }
  | _ => none }
def FnExactAreContactsWrongFalsely : Prop := fnExactAreContactsRow.holds Try.pinned (OpenSpec.ofChange fnExactAreContactsWrong)

/-- 'laws.FnExactMoveOn': WHATEVER THE INPUT: true; the input reads as it did. -/
def fnExactMoveOnSpec : ChangeSpec := { name := "fnExactMoveOn", fn := fun _ => fun
  | [d1, d2] => { results := [.lit (.bool true)], args := [d1, d2] }
  | _ => none }
def fnExactMoveOnRow : OpenClaim := { program := "ytdkiikmmlfdlcaa", sum := "cc8a33a908db592f67ee7e33ed530711efb2cace0bdeb2a6478a11204ae108e1", func := "loop.example/g00915/laws.FnExactMoveOn", spec := "fnExactMoveOn", unfollowed := true, recurses := true, apart := false }
def FnExactMoveOnSaid : Prop := fnExactMoveOnRow.holds Try.pinned (OpenSpec.ofChange fnExactMoveOnSpec)

/-- ITS FALSE NEIGHBOUR: 'it returns false'. Refute it at one input. -/
def fnExactMoveOnWrong : ChangeSpec := { name := "fnExactMoveOn", fn := fun _ => fun
  | [d1, d2] => { results := [.lit (.bool false)], args := [d1, d2] }
  | _ => none }
def FnExactMoveOnWrongFalsely : Prop := fnExactMoveOnRow.holds Try.pinned (OpenSpec.ofChange fnExactMoveOnWrong)

/-- 'laws.FnExactGateCost': WHATEVER THE INPUT: true; the input reads as it did. -/
def fnExactGateCostSpec : ChangeSpec := { name := "fnExactGateCost", fn := fun _ => fun
  | [d1, d2] => { results := [.lit (.bool true)], args := [d1, d2] }
  | _ => none }
def fnExactGateCostRow : OpenClaim := { program := "ytdkiikmmlfdlcaa", sum := "cc8a33a908db592f67ee7e33ed530711efb2cace0bdeb2a6478a11204ae108e1", func := "loop.example/g00915/laws.FnExactGateCost", spec := "fnExactGateCost", unfollowed := true, recurses := true, apart := false }
def FnExactGateCostSaid : Prop := fnExactGateCostRow.holds Try.pinned (OpenSpec.ofChange fnExactGateCostSpec)

/-- ITS FALSE NEIGHBOUR: 'it returns false'. Refute it at one input. -/
def fnExactGateCostWrong : ChangeSpec := { name := "fnExactGateCost", fn := fun _ => fun
  | [d1, d2] => { results := [.lit (.bool false)], args := [d1, d2] }
  | _ => none }
def FnExactGateCostWrongFalsely : Prop := fnExactGateCostRow.holds Try.pinned (OpenSpec.ofChange fnExactGateCostWrong)

/-- 'laws.FnExactInGate': WHATEVER THE INPUT: true; the input reads as it did. -/
def fnExactInGateSpec : ChangeSpec := { name := "fnExactInGate", fn := fun _ => fun
  | [d1, d2] => { results := [.lit (.bool true)], args := [d1, d2] }
  | _ => none }
def fnExactInGateRow : OpenClaim := { program := "ytdkiikmmlfdlcaa", sum := "cc8a33a908db592f67ee7e33ed530711efb2cace0bdeb2a6478a11204ae108e1", func := "loop.example/g00915/laws.FnExactInGate", spec := "fnExactInGate", unfollowed := true, recurses := true, apart := false }
def FnExactInGateSaid : Prop := fnExactInGateRow.holds Try.pinned (OpenSpec.ofChange fnExactInGateSpec)

/-- ITS FALSE NEIGHBOUR: 'it returns false'. Refute it at one input. -/
def fnExactInGateWrong : ChangeSpec := { name := "fnExactInGate", fn := fun _ => fun
  | [d1, d2] => { results := [.lit (.bool false)], args := [d1, d2] }
  | _ => none }
def FnExactInGateWrongFalsely : Prop := fnExactInGateRow.holds Try.pinned (OpenSpec.ofChange fnExactInGateWrong)

/-- 'laws.FnExactContactsIn': WHATEVER THE INPUT: true; the input reads as it did. -/
def fnExactContactsInSpec : ChangeSpec := { name := "fnExactContactsIn", fn := fun _ => fun
  | [d1, d2] => { results := [.lit (.bool true)], args := [d1, d2] }
  | _ => none }
def fnExactContactsInRow : OpenClaim := { program := "ytdkiikmmlfdlcaa", sum := "cc8a33a908db592f67ee7e33ed530711efb2cace0bdeb2a6478a11204ae108e1", func := "loop.example/g00915/laws.FnExactContactsIn", spec := "fnExactContactsIn", unfollowed := true, recurses := true, apart := false }
def FnExactContactsInSaid : Prop := fnExactContactsInRow.holds Try.pinned (OpenSpec.ofChange fnExactContactsInSpec)

/-- ITS FALSE NEIGHBOUR: 'it returns false'. Refute it at one input. -/
def fnExactContactsInWrong : ChangeSpec := { name := "fnExactContactsIn", fn := fun _ => fun
  | [d1, d2] => { results := [.lit (.bool false)], args := [d1, d2] }
  | _ => none }
def FnExactContactsInWrongFalsely : Prop := fnExactContactsInRow.holds Try.pinned (OpenSpec.ofChange fnExactContactsInWrong)

/-- 'laws.FnExactNearestIn': WHATEVER THE INPUT: true; the input reads as it did. -/
def fnExactNearestInSpec : ChangeSpec := { name := "fnExactNearestIn", fn := fun _ => fun
  | [d1, d2] => { results := [.lit (.bool true)], args := [d1, d2] }
  | _ => none }
def fnExactNearestInRow : OpenClaim := { program := "ytdkiikmmlfdlcaa", sum := "cc8a33a908db592f67ee7e33ed530711efb2cace0bdeb2a6478a11204ae108e1", func := "loop.example/g00915/laws.FnExactNearestIn", spec := "fnExactNearestIn", unfollowed := true, recurses := true, apart := false }
def FnExactNearestInSaid : Prop := fnExactNearestInRow.holds Try.pinned (OpenSpec.ofChange fnExactNearestInSpec)

/-- ITS FALSE NEIGHBOUR: 'it returns false'. Refute it at one input. -/
def fnExactNearestInWrong : ChangeSpec := { name := "fnExactNearestIn", fn := fun _ => fun
  | [d1, d2] => { results := [.lit (.bool false)], args := [d1, d2] }
  | _ => none }
def FnExactNearestInWrongFalsely : Prop := fnExactNearestInRow.holds Try.pinned (OpenSpec.ofChange fnExactNearestInWrong)

/-- 'laws.FnExactGateCosts': WHATEVER THE INPUT: true; the input reads as it did. -/
def fnExactGateCostsSpec : ChangeSpec := { name := "fnExactGateCosts", fn := fun _ => fun
  | [d1, d2] => { results := [.lit (.bool true)], args := [d1, d2] }
  | _ => none }
def fnExactGateCostsRow : OpenClaim := { program := "ytdkiikmmlfdlcaa", sum := "cc8a33a908db592f67ee7e33ed530711efb2cace0bdeb2a6478a11204ae108e1", func := "loop.example/g00915/laws.FnExactGateCosts", spec := "fnExactGateCosts", unfollowed := true, recurses := true, apart := false }
def FnExactGateCostsSaid : Prop := fnExactGateCostsRow.holds Try.pinned (OpenSpec.ofChange fnExactGateCostsSpec)

/-- ITS FALSE NEIGHBOUR: 'it returns false'. Refute it at one input. -/
def fnExactGateCostsWrong : ChangeSpec := { name := "fnExactGateCosts", fn := fun _ => fun
  | [d1, d2] => { results := [.lit (.bool false)], args := [d1, d2] }
  | _ => none }
def FnExactGateCostsWrongFalsely : Prop := fnExactGateCostsRow.holds Try.pinned (OpenSpec.ofChange fnExactGateCostsWrong)

/-- 'laws.FnExactGatesMeet': WHATEVER THE INPUT: true; the input reads as it did. -/
def fnExactGatesMeetSpec : ChangeSpec := { name := "fnExactGatesMeet", fn := fun _ => fun
  | [d1, d2] => { results := [.lit (.bool true)], args := [d1, d2] }
  | _ => none }
def fnExactGatesMeetRow : OpenClaim := { program := "ytdkiikmmlfdlcaa", sum := "cc8a33a908db592f67ee7e33ed530711efb2cace0bdeb2a6478a11204ae108e1", func := "loop.example/g00915/laws.FnExactGatesMeet", spec := "fnExactGatesMeet", unfollowed := true, recurses := true, apart := false }
def FnExactGatesMeetSaid : Prop := fnExactGatesMeetRow.holds Try.pinned (OpenSpec.ofChange fnExactGatesMeetSpec)

/-- ITS FALSE NEIGHBOUR: 'it returns false'. Refute it at one input. -/
def fnExactGatesMeetWrong : ChangeSpec := { name := "fnExactGatesMeet", fn := fun _ => fun
  | [d1, d2] => { results := [.lit (.bool false)], args := [d1, d2] }
  | _ => none }
def FnExactGatesMeetWrongFalsely : Prop := fnExactGatesMeetRow.holds Try.pinned (OpenSpec.ofChange fnExactGatesMeetWrong)

/- THE SECOND FORM. 'bulk': how many values and letters a reading holds, each counted each time it is reached (what is shared counts as often as it is met; a slice's spare places count too). A statement '..UptoSaid' is the law's where the arguments, and the package variables that the reading takes, are together of bulk at most 1048576: NARROWER than '..Said'. Prove '..Said' where nothing that the law and all that it calls make is longer than what came in: it says more and counts as full. Else prove '..UptoSaid'. A law counts once. -/
mutual
def uptoBulk {H : Type} : DataW H → Nat
  | .lit (.string bytes) => bytes.length + 1
  | .lit _ => 1
  | .nil => 1
  | .ptr d => uptoBulk d + 1
  | .slice elems spare => uptoBulkAll elems + uptoBulkAll spare + 1
  | .agg parts => uptoBulkAll parts + 1
  | .iface _ d => uptoBulk d + 1
  | .map entries => uptoBulkEntries entries + 1
  | .held _ => 1
def uptoBulkAll {H : Type} : List (DataW H) → Nat
  | [] => 0
  | d :: r => uptoBulk d + uptoBulkAll r
def uptoBulkEntries {H : Type} : List (Lit × DataW H) → Nat
  | [] => 0
  | x :: r => uptoBulkEntry x + uptoBulkEntries r
def uptoBulkEntry {H : Type} : Lit × DataW H → Nat
  | (.string bytes, d) => bytes.length + uptoBulk d + 1
  | (_, d) => uptoBulk d + 1
 end
def uptoSmall : (H : Type) → List (DataW H) → Bool := fun _ ds => decide (uptoBulkAll ds ≤ 1048576)
def OpenSpec.upto (s : _root_.Go.ChangeSpec) : _root_.Go.OpenSpec := { _root_.Go.OpenSpec.ofChange s with cond := some uptoSmall }

/-- 'laws.FnMotions', WHERE WHAT IT READS IS OF BULK AT MOST 1048576: true; the input reads as it did. -/
def fnMotionsUptoRow : OpenClaim := { program := "ytdkiikmmlfdlcaa", sum := "cc8a33a908db592f67ee7e33ed530711efb2cace0bdeb2a6478a11204ae108e1", func := "loop.example/g00915/laws.FnMotions", spec := "fnMotions", unfollowed := true, recurses := true, apart := false, narrowed := true }
def FnMotionsUptoSaid : Prop := fnMotionsUptoRow.holds Try.pinned (OpenSpec.upto fnMotionsSpec)

/-- 'laws.FnGates', WHERE WHAT IT READS IS OF BULK AT MOST 1048576: true; the input reads as it did. -/
def fnGatesUptoRow : OpenClaim := { program := "ytdkiikmmlfdlcaa", sum := "cc8a33a908db592f67ee7e33ed530711efb2cace0bdeb2a6478a11204ae108e1", func := "loop.example/g00915/laws.FnGates", spec := "fnGates", unfollowed := true, recurses := true, apart := false, narrowed := true }
def FnGatesUptoSaid : Prop := fnGatesUptoRow.holds Try.pinned (OpenSpec.upto fnGatesSpec)

/-- 'laws.FnExactIsMotion', WHERE WHAT IT READS IS OF BULK AT MOST 1048576: true; the input reads as it did. -/
def fnExactIsMotionUptoRow : OpenClaim := { program := "ytdkiikmmlfdlcaa", sum := "cc8a33a908db592f67ee7e33ed530711efb2cace0bdeb2a6478a11204ae108e1", func := "loop.example/g00915/laws.FnExactIsMotion", spec := "fnExactIsMotion", unfollowed := true, recurses := true, apart := false, narrowed := true }
def FnExactIsMotionUptoSaid : Prop := fnExactIsMotionUptoRow.holds Try.pinned (OpenSpec.upto fnExactIsMotionSpec)

/-- 'laws.FnExactAreContacts', WHERE WHAT IT READS IS OF BULK AT MOST 1048576: true; the input reads as it did. -/
def fnExactAreContactsUptoRow : OpenClaim := { program := "ytdkiikmmlfdlcaa", sum := "cc8a33a908db592f67ee7e33ed530711efb2cace0bdeb2a6478a11204ae108e1", func := "loop.example/g00915/laws.FnExactAreContacts", spec := "fnExactAreContacts", unfollowed := true, recurses := true, apart := false, narrowed := true }
def FnExactAreContactsUptoSaid : Prop := fnExactAreContactsUptoRow.holds Try.pinned (OpenSpec.upto fnExactAreContactsSpec)

/-- 'laws.FnExactMoveOn', WHERE WHAT IT READS IS OF BULK AT MOST 1048576: true; the input reads as it did. -/
def fnExactMoveOnUptoRow : OpenClaim := { program := "ytdkiikmmlfdlcaa", sum := "cc8a33a908db592f67ee7e33ed530711efb2cace0bdeb2a6478a11204ae108e1", func := "loop.example/g00915/laws.FnExactMoveOn", spec := "fnExactMoveOn", unfollowed := true, recurses := true, apart := false, narrowed := true }
def FnExactMoveOnUptoSaid : Prop := fnExactMoveOnUptoRow.holds Try.pinned (OpenSpec.upto fnExactMoveOnSpec)

/-- 'laws.FnExactGateCost', WHERE WHAT IT READS IS OF BULK AT MOST 1048576: true; the input reads as it did. -/
def fnExactGateCostUptoRow : OpenClaim := { program := "ytdkiikmmlfdlcaa", sum := "cc8a33a908db592f67ee7e33ed530711efb2cace0bdeb2a6478a11204ae108e1", func := "loop.example/g00915/laws.FnExactGateCost", spec := "fnExactGateCost", unfollowed := true, recurses := true, apart := false, narrowed := true }
def FnExactGateCostUptoSaid : Prop := fnExactGateCostUptoRow.holds Try.pinned (OpenSpec.upto fnExactGateCostSpec)

/-- 'laws.FnExactInGate', WHERE WHAT IT READS IS OF BULK AT MOST 1048576: true; the input reads as it did. -/
def fnExactInGateUptoRow : OpenClaim := { program := "ytdkiikmmlfdlcaa", sum := "cc8a33a908db592f67ee7e33ed530711efb2cace0bdeb2a6478a11204ae108e1", func := "loop.example/g00915/laws.FnExactInGate", spec := "fnExactInGate", unfollowed := true, recurses := true, apart := false, narrowed := true }
def FnExactInGateUptoSaid : Prop := fnExactInGateUptoRow.holds Try.pinned (OpenSpec.upto fnExactInGateSpec)

/-- 'laws.FnExactContactsIn', WHERE WHAT IT READS IS OF BULK AT MOST 1048576: true; the input reads as it did. -/
def fnExactContactsInUptoRow : OpenClaim := { program := "ytdkiikmmlfdlcaa", sum := "cc8a33a908db592f67ee7e33ed530711efb2cace0bdeb2a6478a11204ae108e1", func := "loop.example/g00915/laws.FnExactContactsIn", spec := "fnExactContactsIn", unfollowed := true, recurses := true, apart := false, narrowed := true }
def FnExactContactsInUptoSaid : Prop := fnExactContactsInUptoRow.holds Try.pinned (OpenSpec.upto fnExactContactsInSpec)

/-- 'laws.FnExactNearestIn', WHERE WHAT IT READS IS OF BULK AT MOST 1048576: true; the input reads as it did. -/
def fnExactNearestInUptoRow : OpenClaim := { program := "ytdkiikmmlfdlcaa", sum := "cc8a33a908db592f67ee7e33ed530711efb2cace0bdeb2a6478a11204ae108e1", func := "loop.example/g00915/laws.FnExactNearestIn", spec := "fnExactNearestIn", unfollowed := true, recurses := true, apart := false, narrowed := true }
def FnExactNearestInUptoSaid : Prop := fnExactNearestInUptoRow.holds Try.pinned (OpenSpec.upto fnExactNearestInSpec)

/-- 'laws.FnExactGateCosts', WHERE WHAT IT READS IS OF BULK AT MOST 1048576: true; the input reads as it did. -/
def fnExactGateCostsUptoRow : OpenClaim := { program := "ytdkiikmmlfdlcaa", sum := "cc8a33a908db592f67ee7e33ed530711efb2cace0bdeb2a6478a11204ae108e1", func := "loop.example/g00915/laws.FnExactGateCosts", spec := "fnExactGateCosts", unfollowed := true, recurses := true, apart := false, narrowed := true }
def FnExactGateCostsUptoSaid : Prop := fnExactGateCostsUptoRow.holds Try.pinned (OpenSpec.upto fnExactGateCostsSpec)

/-- 'laws.FnExactGatesMeet', WHERE WHAT IT READS IS OF BULK AT MOST 1048576: true; the input reads as it did. -/
def fnExactGatesMeetUptoRow : OpenClaim := { program := "ytdkiikmmlfdlcaa", sum := "cc8a33a908db592f67ee7e33ed530711efb2cace0bdeb2a6478a11204ae108e1", func := "loop.example/g00915/laws.FnExactGatesMeet", spec := "fnExactGatesMeet", unfollowed := true, recurses := true, apart := false, narrowed := true }
def FnExactGatesMeetUptoSaid : Prop := fnExactGatesMeetUptoRow.holds Try.pinned (OpenSpec.upto fnExactGatesMeetSpec)

end Rows
end Go.Proofs.Ytdkiikmmlfdlcaa
