/-
  No cell of these rows narrows 'for every input' (looked for: loops, veiled, ifaces, maps, wideKeys, modest, calm, conditions, laid).
  DERIVED. THE GIVEN ROWS OF THIS SEAT. 13 by the template 'for every input the law returns true; each argument reads behind the call as it read before'; 0 by the template 'total and deterministic' (their statements: YtkjpjhklnaehbaaTotals.lean).
  GIVEN WITH THE SEED: the statements are not yours to turn. If you find one false, say at which input.
  Laid BY PROGRAM, IN A SANDBOX (cutbox-rows.mjs): the forced cells as the released guide's own fill.sh prints them over the translation 2d4170d37c673bdb… (all of the seat's roots in one cut). By AI agents, Wed Nov 11 2026. No macro, syntax, notation, axiom, sorry.
-/
import Derived.Test.YtkjpjhklnaehbaaChecked
import GoSem.Claim
import GoSem.ClaimJoined
import GoSem.ClaimMapViews
import Derived.JoinedTies
import Derived.KernelRfl
namespace Go.Proofs.Ytkjpjhklnaehbaa
/- THE CELL 'sum', in the pinned program and in every row, IS THE sha256 OF THE DUMP (.gsa) THAT YtkjpjhklnaehbaaProg.lean LOADS. Nothing in Lean hashes anything: it is a label: what it is worth is what the hold of that sum in a sandbox is worth. -/
noncomputable def Try.pinned : Pinned := { name := "ytkjpjhklnaehbaa", sum := "2d4170d37c673bdbd851e2ecc7950ebcca7179edeca4a08b61d9a88ca14aaf86", checked := Try.checked }
namespace Rows
def none {H : Type} : Left H := { results := [], args := [] }

/-- 'laws.FnExactIsBearing': WHATEVER THE INPUT: true; the input reads as it did. -/
def fnExactIsBearingSpec : ChangeSpec := { name := "fnExactIsBearing", fn := fun _ => fun
  | [d] => { results := [.lit (.bool true)], args := [d] }
  | _ => none }
def fnExactIsBearingRow : OpenClaim := { program := "ytkjpjhklnaehbaa", sum := "2d4170d37c673bdbd851e2ecc7950ebcca7179edeca4a08b61d9a88ca14aaf86", func := "loop.example/g00915/laws.FnExactIsBearing", spec := "fnExactIsBearing", unfollowed := true, recurses := true, apart := false }
def FnExactIsBearingSaid : Prop := fnExactIsBearingRow.holds Try.pinned (OpenSpec.ofChange fnExactIsBearingSpec)

/-- ITS FALSE NEIGHBOUR: 'it returns false'. Refute it at one input. -/
def fnExactIsBearingWrong : ChangeSpec := { name := "fnExactIsBearing", fn := fun _ => fun
  | [d] => { results := [.lit (.bool false)], args := [d] }
  | _ => none }
def FnExactIsBearingWrongFalsely : Prop := fnExactIsBearingRow.holds Try.pinned (OpenSpec.ofChange fnExactIsBearingWrong)

/-- 'laws.FnExactSideOf': WHATEVER THE INPUT: true; the input reads as it did. -/
def fnExactSideOfSpec : ChangeSpec := { name := "fnExactSideOf", fn := fun _ => fun
  | [d1, d2, d3] => { results := [.lit (.bool true)], args := [d1, d2, d3] }
  | _ => none }
def fnExactSideOfRow : OpenClaim := { program := "ytkjpjhklnaehbaa", sum := "2d4170d37c673bdbd851e2ecc7950ebcca7179edeca4a08b61d9a88ca14aaf86", func := "loop.example/g00915/laws.FnExactSideOf", spec := "fnExactSideOf", unfollowed := true, recurses := true, apart := false }
def FnExactSideOfSaid : Prop := fnExactSideOfRow.holds Try.pinned (OpenSpec.ofChange fnExactSideOfSpec)

/-- ITS FALSE NEIGHBOUR: 'it returns false'. Refute it at one input. -/
def fnExactSideOfWrong : ChangeSpec := { name := "fnExactSideOf", fn := fun _ => fun
  | [d1, d2, d3] => { results := [.lit (.bool false)], args := [d1, d2, d3] }
  | _ => none }
def FnExactSideOfWrongFalsely : Prop := fnExactSideOfRow.holds Try.pinned (OpenSpec.ofChange fnExactSideOfWrong)

/-- 'laws.FnExactCompareBearings': WHATEVER THE INPUT: true; the input reads as it did. -/
def fnExactCompareBearingsSpec : ChangeSpec := { name := "fnExactCompareBearings", fn := fun _ => fun
  | [d1, d2] => { results := [.lit (.bool true)], args := [d1, d2] }
  | _ => none }
def fnExactCompareBearingsRow : OpenClaim := { program := "ytkjpjhklnaehbaa", sum := "2d4170d37c673bdbd851e2ecc7950ebcca7179edeca4a08b61d9a88ca14aaf86", func := "loop.example/g00915/laws.FnExactCompareBearings", spec := "fnExactCompareBearings", unfollowed := true, recurses := true, apart := false }
def FnExactCompareBearingsSaid : Prop := fnExactCompareBearingsRow.holds Try.pinned (OpenSpec.ofChange fnExactCompareBearingsSpec)

/-- ITS FALSE NEIGHBOUR: 'it returns false'. Refute it at one input. -/
def fnExactCompareBearingsWrong : ChangeSpec := { name := "fnExactCompareBearings", fn := fun _ => fun
  | [d1, d2] => { results := [.lit (.bool false)], args := [d1, d2] }
  | _ => none }
def FnExactCompareBearingsWrongFalsely : Prop := fnExactCompareBearingsRow.holds Try.pinned (OpenSpec.ofChange fnExactCompareBearingsWrong)

/-- 'laws.FnExactCrossFix': WHATEVER THE INPUT: true; the input reads as it did. -/
def fnExactCrossFixSpec : ChangeSpec := { name := "fnExactCrossFix", fn := fun _ => fun
  | [d1, d2, d3, d4] => { results := [.lit (.bool true)], args := [d1, d2, d3, d4] }
  | _ => none }
def fnExactCrossFixRow : OpenClaim := { program := "ytkjpjhklnaehbaa", sum := "2d4170d37c673bdbd851e2ecc7950ebcca7179edeca4a08b61d9a88ca14aaf86", func := "loop.example/g00915/laws.FnExactCrossFix", spec := "fnExactCrossFix", unfollowed := true, recurses := true, apart := false }
def FnExactCrossFixSaid : Prop := fnExactCrossFixRow.holds Try.pinned (OpenSpec.ofChange fnExactCrossFixSpec)

/-- ITS FALSE NEIGHBOUR: 'it returns false'. Refute it at one input. -/
def fnExactCrossFixWrong : ChangeSpec := { name := "fnExactCrossFix", fn := fun _ => fun
  | [d1, d2, d3, d4] => { results := [.lit (.bool false)], args := [d1, d2, d3, d4] }
  | _ => none }
def FnExactCrossFixWrongFalsely : Prop := fnExactCrossFixRow.holds Try.pinned (OpenSpec.ofChange fnExactCrossFixWrong)

/-- 'laws.FnExactPositionAt': WHATEVER THE INPUT: true; the input reads as it did. -/
def fnExactPositionAtSpec : ChangeSpec := { name := "fnExactPositionAt", fn := fun _ => fun
  | [d1, d2] => { results := [.lit (.bool true)], args := [d1, d2] }
  | _ => none }
def fnExactPositionAtRow : OpenClaim := { program := "ytkjpjhklnaehbaa", sum := "2d4170d37c673bdbd851e2ecc7950ebcca7179edeca4a08b61d9a88ca14aaf86", func := "loop.example/g00915/laws.FnExactPositionAt", spec := "fnExactPositionAt", unfollowed := true, recurses := true, apart := false }
def FnExactPositionAtSaid : Prop := fnExactPositionAtRow.holds Try.pinned (OpenSpec.ofChange fnExactPositionAtSpec)

/-- ITS FALSE NEIGHBOUR: 'it returns false'. Refute it at one input. -/
def fnExactPositionAtWrong : ChangeSpec := { name := "fnExactPositionAt", fn := fun _ => fun
  | [d1, d2] => { results := [.lit (.bool false)], args := [d1, d2] }
  | _ => none }
def FnExactPositionAtWrongFalsely : Prop := fnExactPositionAtRow.holds Try.pinned (OpenSpec.ofChange fnExactPositionAtWrong)

/-- 'laws.FnExactClosestTime': WHATEVER THE INPUT: true; the input reads as it did. -/
def fnExactClosestTimeSpec : ChangeSpec := { name := "fnExactClosestTime", fn := fun _ => fun
  | [d1, d2] => { results := [.lit (.bool true)], args := [d1, d2] }
  | _ => none }
def fnExactClosestTimeRow : OpenClaim := { program := "ytkjpjhklnaehbaa", sum := "2d4170d37c673bdbd851e2ecc7950ebcca7179edeca4a08b61d9a88ca14aaf86", func := "loop.example/g00915/laws.FnExactClosestTime", spec := "fnExactClosestTime", unfollowed := true, recurses := true, apart := false }
def FnExactClosestTimeSaid : Prop := fnExactClosestTimeRow.holds Try.pinned (OpenSpec.ofChange fnExactClosestTimeSpec)

/-- ITS FALSE NEIGHBOUR: 'it returns false'. Refute it at one input. -/
def fnExactClosestTimeWrong : ChangeSpec := { name := "fnExactClosestTime", fn := fun _ => fun
  | [d1, d2] => { results := [.lit (.bool false)], args := [d1, d2] }
  | _ => none }
def FnExactClosestTimeWrongFalsely : Prop := fnExactClosestTimeRow.holds Try.pinned (OpenSpec.ofChange fnExactClosestTimeWrong)

/-- 'laws.FnExactClosestSquare': WHATEVER THE INPUT: true; the input reads as it did. -/
def fnExactClosestSquareSpec : ChangeSpec := { name := "fnExactClosestSquare", fn := fun _ => fun
  | [d1, d2] => { results := [.lit (.bool true)], args := [d1, d2] }
  | _ => none }
def fnExactClosestSquareRow : OpenClaim := { program := "ytkjpjhklnaehbaa", sum := "2d4170d37c673bdbd851e2ecc7950ebcca7179edeca4a08b61d9a88ca14aaf86", func := "loop.example/g00915/laws.FnExactClosestSquare", spec := "fnExactClosestSquare", unfollowed := true, recurses := true, apart := false }
def FnExactClosestSquareSaid : Prop := fnExactClosestSquareRow.holds Try.pinned (OpenSpec.ofChange fnExactClosestSquareSpec)

/-- ITS FALSE NEIGHBOUR: 'it returns false'. Refute it at one input. -/
def fnExactClosestSquareWrong : ChangeSpec := { name := "fnExactClosestSquare", fn := fun _ => fun
  | [d1, d2] => { results := [.lit (.bool false)], args := [d1, d2] }
  | _ => none }
def FnExactClosestSquareWrongFalsely : Prop := fnExactClosestSquareRow.holds Try.pinned (OpenSpec.ofChange fnExactClosestSquareWrong)

/-- 'laws.FnExactBearingDrift': WHATEVER THE INPUT: true; the input reads as it did. -/
def fnExactBearingDriftSpec : ChangeSpec := { name := "fnExactBearingDrift", fn := fun _ => fun
  | [d1, d2, d3] => { results := [.lit (.bool true)], args := [d1, d2, d3] }
  | _ => none }
def fnExactBearingDriftRow : OpenClaim := { program := "ytkjpjhklnaehbaa", sum := "2d4170d37c673bdbd851e2ecc7950ebcca7179edeca4a08b61d9a88ca14aaf86", func := "loop.example/g00915/laws.FnExactBearingDrift", spec := "fnExactBearingDrift", unfollowed := true, recurses := true, apart := false }
def FnExactBearingDriftSaid : Prop := fnExactBearingDriftRow.holds Try.pinned (OpenSpec.ofChange fnExactBearingDriftSpec)

/-- ITS FALSE NEIGHBOUR: 'it returns false'. Refute it at one input. -/
def fnExactBearingDriftWrong : ChangeSpec := { name := "fnExactBearingDrift", fn := fun _ => fun
  | [d1, d2, d3] => { results := [.lit (.bool false)], args := [d1, d2, d3] }
  | _ => none }
def FnExactBearingDriftWrongFalsely : Prop := fnExactBearingDriftRow.holds Try.pinned (OpenSpec.ofChange fnExactBearingDriftWrong)

/-- 'laws.FnExactDoMeet': WHATEVER THE INPUT: true; the input reads as it did. -/
def fnExactDoMeetSpec : ChangeSpec := { name := "fnExactDoMeet", fn := fun _ => fun
  | [d1, d2] => { results := [.lit (.bool true)], args := [d1, d2] }
  | _ => none }
def fnExactDoMeetRow : OpenClaim := { program := "ytkjpjhklnaehbaa", sum := "2d4170d37c673bdbd851e2ecc7950ebcca7179edeca4a08b61d9a88ca14aaf86", func := "loop.example/g00915/laws.FnExactDoMeet", spec := "fnExactDoMeet", unfollowed := true, recurses := true, apart := false }
def FnExactDoMeetSaid : Prop := fnExactDoMeetRow.holds Try.pinned (OpenSpec.ofChange fnExactDoMeetSpec)

/-- ITS FALSE NEIGHBOUR: 'it returns false'. Refute it at one input. -/
def fnExactDoMeetWrong : ChangeSpec := { name := "fnExactDoMeet", fn := fun _ => fun
  | [d1, d2] => { results := [.lit (.bool false)], args := [d1, d2] }
  | _ => none }
def FnExactDoMeetWrongFalsely : Prop := fnExactDoMeetRow.holds Try.pinned (OpenSpec.ofChange fnExactDoMeetWrong)

/-- 'laws.FnSides': WHATEVER THE INPUT: true; the input reads as it did. -/
def fnSidesSpec : ChangeSpec := { name := "fnSides", fn := fun _ => fun
  | [d] => { results := [.lit (.bool true)], args := [d] }
  | _ => none }
def fnSidesRow : OpenClaim := { program := "ytkjpjhklnaehbaa", sum := "2d4170d37c673bdbd851e2ecc7950ebcca7179edeca4a08b61d9a88ca14aaf86", func := "loop.example/g00915/laws.FnSides", spec := "fnSides", unfollowed := true, recurses := true, apart := false }
def FnSidesSaid : Prop := fnSidesRow.holds Try.pinned (OpenSpec.ofChange fnSidesSpec)

/-- ITS FALSE NEIGHBOUR: 'it returns false'. Refute it at one input. -/
def fnSidesWrong : ChangeSpec := { name := "fnSides", fn := fun _ => fun
  | [d] => { results := [.lit (.bool false)], args := [d] }
  | _ => none }
def FnSidesWrongFalsely : Prop := fnSidesRow.holds Try.pinned (OpenSpec.ofChange fnSidesWrong)

/-- 'laws.FnFixes': WHATEVER THE INPUT: true; the input reads as it did. -/
def fnFixesSpec : ChangeSpec := { name := "fnFixes", fn := fun _ => fun
  | [d] => { results := [.lit (.bool true)], args := [d] }
  | _ => none }
def fnFixesRow : OpenClaim := { program := "ytkjpjhklnaehbaa", sum := "2d4170d37c673bdbd851e2ecc7950ebcca7179edeca4a08b61d9a88ca14aaf86", func := "loop.example/g00915/laws.FnFixes", spec := "fnFixes", unfollowed := true, recurses := true, apart := false }
def FnFixesSaid : Prop := fnFixesRow.holds Try.pinned (OpenSpec.ofChange fnFixesSpec)

/-- ITS FALSE NEIGHBOUR: 'it returns false'. Refute it at one input. -/
def fnFixesWrong : ChangeSpec := { name := "fnFixes", fn := fun _ => fun
  | [d] => { results := [.lit (.bool false)], args := [d] }
  | _ => none }
def FnFixesWrongFalsely : Prop := fnFixesRow.holds Try.pinned (OpenSpec.ofChange fnFixesWrong)

/-- 'laws.FnTracks': WHATEVER THE INPUT: true; the input reads as it did. -/
def fnTracksSpec : ChangeSpec := { name := "fnTracks", fn := fun _ => fun
  | [d] => { results := [.lit (.bool true)], args := [d] }
  | _ => none }
def fnTracksRow : OpenClaim := { program := "ytkjpjhklnaehbaa", sum := "2d4170d37c673bdbd851e2ecc7950ebcca7179edeca4a08b61d9a88ca14aaf86", func := "loop.example/g00915/laws.FnTracks", spec := "fnTracks", unfollowed := true, recurses := true, apart := false }
def FnTracksSaid : Prop := fnTracksRow.holds Try.pinned (OpenSpec.ofChange fnTracksSpec)

/-- ITS FALSE NEIGHBOUR: 'it returns false'. Refute it at one input. -/
def fnTracksWrong : ChangeSpec := { name := "fnTracks", fn := fun _ => fun
  | [d] => { results := [.lit (.bool false)], args := [d] }
  | _ => none }
def FnTracksWrongFalsely : Prop := fnTracksRow.holds Try.pinned (OpenSpec.ofChange fnTracksWrong)

/-- 'laws.FnMeetings': WHATEVER THE INPUT: true; the input reads as it did. -/
def fnMeetingsSpec : ChangeSpec := { name := "fnMeetings", fn := fun _ => fun
  | [d] => { results := [.lit (.bool true)], args := [d] }
  | _ => none }
def fnMeetingsRow : OpenClaim := { program := "ytkjpjhklnaehbaa", sum := "2d4170d37c673bdbd851e2ecc7950ebcca7179edeca4a08b61d9a88ca14aaf86", func := "loop.example/g00915/laws.FnMeetings", spec := "fnMeetings", unfollowed := true, recurses := true, apart := false }
def FnMeetingsSaid : Prop := fnMeetingsRow.holds Try.pinned (OpenSpec.ofChange fnMeetingsSpec)

/-- ITS FALSE NEIGHBOUR: 'it returns false'. Refute it at one input. -/
def fnMeetingsWrong : ChangeSpec := { name := "fnMeetings", fn := fun _ => fun
  | [d] => { results := [.lit (.bool false)], args := [d] }
  | _ => none }
def FnMeetingsWrongFalsely : Prop := fnMeetingsRow.holds Try.pinned (OpenSpec.ofChange fnMeetingsWrong)

/- THE SECOND FORM. 'bulk': how many values and letters a reading holds, each counted each time it is reached (what is shared counts as often as it is met; a slice's spare places count too). A statement '..UptoSaid' is the law's where the arguments, and the package variables that the reading takes, are together of bulk at most 1048576: NARROWER than '..Said'. Prove '..Said' where nothing that the law and all that it calls make is longer than what came in: it says more and counts as full. Else prove '..UptoSaid'. A law counts once. -/
mutual
def uptoBulk {H : Type} : DataW H → Nat
  | .lit (.string bytes) => bytes.length + 1
  | .lit _ => 1
  | .nil => 1
  | .ptr d => uptoBulk d + 1
  | .slice elems spare => uptoBulkAll elems + uptoBulkAll spare + 1
  | .agg parts => uptoBulkAll parts + 1
  | .iface _ d => uptoBulk d + 1
  | .map entries => uptoBulkEntries entries + 1
  | .held _ => 1
def uptoBulkAll {H : Type} : List (DataW H) → Nat
  | [] => 0
  | d :: r => uptoBulk d + uptoBulkAll r
def uptoBulkEntries {H : Type} : List (Lit × DataW H) → Nat
  | [] => 0
  | x :: r => uptoBulkEntry x + uptoBulkEntries r
def uptoBulkEntry {H : Type} : Lit × DataW H → Nat
  | (.string bytes, d) => bytes.length + uptoBulk d + 1
  | (_, d) => uptoBulk d + 1
 end
def uptoSmall : (H : Type) → List (DataW H) → Bool := fun _ ds => decide (uptoBulkAll ds ≤ 1048576)
def OpenSpec.upto (s : _root_.Go.ChangeSpec) : _root_.Go.OpenSpec := { _root_.Go.OpenSpec.ofChange s with cond := some uptoSmall }

/-- 'laws.FnExactIsBearing', WHERE WHAT IT READS IS OF BULK AT MOST 1048576: true; the input reads as it did. -/
def fnExactIsBearingUptoRow : OpenClaim := { program := "ytkjpjhklnaehbaa", sum := "2d4170d37c673bdbd851e2ecc7950ebcca7179edeca4a08b61d9a88ca14aaf86", func := "loop.example/g00915/laws.FnExactIsBearing", spec := "fnExactIsBearing", unfollowed := true, recurses := true, apart := false, narrowed := true }
def FnExactIsBearingUptoSaid : Prop := fnExactIsBearingUptoRow.holds Try.pinned (OpenSpec.upto fnExactIsBearingSpec)

/-- 'laws.FnExactSideOf', WHERE WHAT IT READS IS OF BULK AT MOST 1048576: true; the input reads as it did. -/
def fnExactSideOfUptoRow : OpenClaim := { program := "ytkjpjhklnaehbaa", sum := "2d4170d37c673bdbd851e2ecc7950ebcca7179edeca4a08b61d9a88ca14aaf86", func := "loop.example/g00915/laws.FnExactSideOf", spec := "fnExactSideOf", unfollowed := true, recurses := true, apart := false, narrowed := true }
def FnExactSideOfUptoSaid : Prop := fnExactSideOfUptoRow.holds Try.pinned (OpenSpec.upto fnExactSideOfSpec)

/-- 'laws.FnExactCompareBearings', WHERE WHAT IT READS IS OF BULK AT MOST 1048576: true; the input reads as it did. -/
def fnExactCompareBearingsUptoRow : OpenClaim := { program := "ytkjpjhklnaehbaa", sum := "2d4170d37c673bdbd851e2ecc7950ebcca7179edeca4a08b61d9a88ca14aaf86", func := "loop.example/g00915/laws.FnExactCompareBearings", spec := "fnExactCompareBearings", unfollowed := true, recurses := true, apart := false, narrowed := true }
def FnExactCompareBearingsUptoSaid : Prop := fnExactCompareBearingsUptoRow.holds Try.pinned (OpenSpec.upto fnExactCompareBearingsSpec)

/-- 'laws.FnExactCrossFix', WHERE WHAT IT READS IS OF BULK AT MOST 1048576: true; the input reads as it did. -/
def fnExactCrossFixUptoRow : OpenClaim := { program := "ytkjpjhklnaehbaa", sum := "2d4170d37c673bdbd851e2ecc7950ebcca7179edeca4a08b61d9a88ca14aaf86", func := "loop.example/g00915/laws.FnExactCrossFix", spec := "fnExactCrossFix", unfollowed := true, recurses := true, apart := false, narrowed := true }
def FnExactCrossFixUptoSaid : Prop := fnExactCrossFixUptoRow.holds Try.pinned (OpenSpec.upto fnExactCrossFixSpec)

/-- 'laws.FnExactPositionAt', WHERE WHAT IT READS IS OF BULK AT MOST 1048576: true; the input reads as it did. -/
def fnExactPositionAtUptoRow : OpenClaim := { program := "ytkjpjhklnaehbaa", sum := "2d4170d37c673bdbd851e2ecc7950ebcca7179edeca4a08b61d9a88ca14aaf86", func := "loop.example/g00915/laws.FnExactPositionAt", spec := "fnExactPositionAt", unfollowed := true, recurses := true, apart := false, narrowed := true }
def FnExactPositionAtUptoSaid : Prop := fnExactPositionAtUptoRow.holds Try.pinned (OpenSpec.upto fnExactPositionAtSpec)

/-- 'laws.FnExactClosestTime', WHERE WHAT IT READS IS OF BULK AT MOST 1048576: true; the input reads as it did. -/
def fnExactClosestTimeUptoRow : OpenClaim := { program := "ytkjpjhklnaehbaa", sum := "2d4170d37c673bdbd851e2ecc7950ebcca7179edeca4a08b61d9a88ca14aaf86", func := "loop.example/g00915/laws.FnExactClosestTime", spec := "fnExactClosestTime", unfollowed := true, recurses := true, apart := false, narrowed := true }
def FnExactClosestTimeUptoSaid : Prop := fnExactClosestTimeUptoRow.holds Try.pinned (OpenSpec.upto fnExactClosestTimeSpec)

/-- 'laws.FnExactClosestSquare', WHERE WHAT IT READS IS OF BULK AT MOST 1048576: true; the input reads as it did. -/
def fnExactClosestSquareUptoRow : OpenClaim := { program := "ytkjpjhklnaehbaa", sum := "2d4170d37c673bdbd851e2ecc7950ebcca7179edeca4a08b61d9a88ca14aaf86", func := "loop.example/g00915/laws.FnExactClosestSquare", spec := "fnExactClosestSquare", unfollowed := true, recurses := true, apart := false, narrowed := true }
def FnExactClosestSquareUptoSaid : Prop := fnExactClosestSquareUptoRow.holds Try.pinned (OpenSpec.upto fnExactClosestSquareSpec)

/-- 'laws.FnExactBearingDrift', WHERE WHAT IT READS IS OF BULK AT MOST 1048576: true; the input reads as it did. -/
def fnExactBearingDriftUptoRow : OpenClaim := { program := "ytkjpjhklnaehbaa", sum := "2d4170d37c673bdbd851e2ecc7950ebcca7179edeca4a08b61d9a88ca14aaf86", func := "loop.example/g00915/laws.FnExactBearingDrift", spec := "fnExactBearingDrift", unfollowed := true, recurses := true, apart := false, narrowed := true }
def FnExactBearingDriftUptoSaid : Prop := fnExactBearingDriftUptoRow.holds Try.pinned (OpenSpec.upto fnExactBearingDriftSpec)

/-- 'laws.FnExactDoMeet', WHERE WHAT IT READS IS OF BULK AT MOST 1048576: true; the input reads as it did. -/
def fnExactDoMeetUptoRow : OpenClaim := { program := "ytkjpjhklnaehbaa", sum := "2d4170d37c673bdbd851e2ecc7950ebcca7179edeca4a08b61d9a88ca14aaf86", func := "loop.example/g00915/laws.FnExactDoMeet", spec := "fnExactDoMeet", unfollowed := true, recurses := true, apart := false, narrowed := true }
def FnExactDoMeetUptoSaid : Prop := fnExactDoMeetUptoRow.holds Try.pinned (OpenSpec.upto fnExactDoMeetSpec)

/-- 'laws.FnSides', WHERE WHAT IT READS IS OF BULK AT MOST 1048576: true; the input reads as it did. -/
def fnSidesUptoRow : OpenClaim := { program := "ytkjpjhklnaehbaa", sum := "2d4170d37c673bdbd851e2ecc7950ebcca7179edeca4a08b61d9a88ca14aaf86", func := "loop.example/g00915/laws.FnSides", spec := "fnSides", unfollowed := true, recurses := true, apart := false, narrowed := true }
def FnSidesUptoSaid : Prop := fnSidesUptoRow.holds Try.pinned (OpenSpec.upto fnSidesSpec)

/-- 'laws.FnFixes', WHERE WHAT IT READS IS OF BULK AT MOST 1048576: true; the input reads as it did. -/
def fnFixesUptoRow : OpenClaim := { program := "ytkjpjhklnaehbaa", sum := "2d4170d37c673bdbd851e2ecc7950ebcca7179edeca4a08b61d9a88ca14aaf86", func := "loop.example/g00915/laws.FnFixes", spec := "fnFixes", unfollowed := true, recurses := true, apart := false, narrowed := true }
def FnFixesUptoSaid : Prop := fnFixesUptoRow.holds Try.pinned (OpenSpec.upto fnFixesSpec)

/-- 'laws.FnTracks', WHERE WHAT IT READS IS OF BULK AT MOST 1048576: true; the input reads as it did. -/
def fnTracksUptoRow : OpenClaim := { program := "ytkjpjhklnaehbaa", sum := "2d4170d37c673bdbd851e2ecc7950ebcca7179edeca4a08b61d9a88ca14aaf86", func := "loop.example/g00915/laws.FnTracks", spec := "fnTracks", unfollowed := true, recurses := true, apart := false, narrowed := true }
def FnTracksUptoSaid : Prop := fnTracksUptoRow.holds Try.pinned (OpenSpec.upto fnTracksSpec)

/-- 'laws.FnMeetings', WHERE WHAT IT READS IS OF BULK AT MOST 1048576: true; the input reads as it did. -/
def fnMeetingsUptoRow : OpenClaim := { program := "ytkjpjhklnaehbaa", sum := "2d4170d37c673bdbd851e2ecc7950ebcca7179edeca4a08b61d9a88ca14aaf86", func := "loop.example/g00915/laws.FnMeetings", spec := "fnMeetings", unfollowed := true, recurses := true, apart := false, narrowed := true }
def FnMeetingsUptoSaid : Prop := fnMeetingsUptoRow.holds Try.pinned (OpenSpec.upto fnMeetingsSpec)

end Rows
end Go.Proofs.Ytkjpjhklnaehbaa
