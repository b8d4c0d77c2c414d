/-
  No cell of these rows narrows 'for every input' (looked for: loops, veiled, ifaces, maps, wideKeys, modest, calm, conditions, laid).
  DERIVED. THE GIVEN ROWS OF THIS SEAT. 6 by the template 'for every input the law returns true; each argument reads behind the call as it read before'; 0 by the template 'total and deterministic' (their statements: YtfcbagjjpclplaaTotals.lean).
  GIVEN WITH THE SEED: the statements are not yours to turn. If you find one false, say at which input.
  Laid BY PROGRAM, IN A SANDBOX (cutbox-rows.mjs): the forced cells as the released guide's own fill.sh prints them over the translation 9e60a17d3ee61cf9… (all of the seat's roots in one cut). By AI agents, Wed Nov 11 2026. No macro, syntax, notation, axiom, sorry.
-/
import Derived.Test.YtfcbagjjpclplaaChecked
import GoSem.Claim
import GoSem.ClaimJoined
import GoSem.ClaimMapViews
import Derived.JoinedTies
import Derived.KernelRfl
namespace Go.Proofs.Ytfcbagjjpclplaa
/- THE CELL 'sum', in the pinned program and in every row, IS THE sha256 OF THE DUMP (.gsa) THAT YtfcbagjjpclplaaProg.lean LOADS. Nothing in Lean hashes anything: it is a label: what it is worth is what the hold of that sum in a sandbox is worth. -/
noncomputable def Try.pinned : Pinned := { name := "ytfcbagjjpclplaa", sum := "9e60a17d3ee61cf96104546616349538a56e637c23ed499da94f4ee0b2c41906", checked := Try.checked }
namespace Rows
def none {H : Type} : Left H := { results := [], args := [] }

/-- 'laws.FnProducts': WHATEVER THE INPUT: true; the input reads as it did. -/
def fnProductsSpec : ChangeSpec := { name := "fnProducts", fn := fun _ => fun
  | [d] => { results := [.lit (.bool true)], args := [d] }
  | _ => none }
def fnProductsRow : OpenClaim := { program := "ytfcbagjjpclplaa", sum := "9e60a17d3ee61cf96104546616349538a56e637c23ed499da94f4ee0b2c41906", func := "loop.example/g00915/laws.FnProducts", spec := "fnProducts", unfollowed := true, recurses := true, plainKeys := false, apart := false }
def FnProductsSaid : Prop := fnProductsRow.holds Try.pinned (OpenSpec.ofChange fnProductsSpec)

/-- ITS FALSE NEIGHBOUR: 'it returns false'. Refute it at one input. -/
def fnProductsWrong : ChangeSpec := { name := "fnProducts", fn := fun _ => fun
  | [d] => { results := [.lit (.bool false)], args := [d] }
  | _ => none }
def FnProductsWrongFalsely : Prop := fnProductsRow.holds Try.pinned (OpenSpec.ofChange fnProductsWrong)

/-- 'laws.FnRadii': WHATEVER THE INPUT: true; the input reads as it did. -/
def fnRadiiSpec : ChangeSpec := { name := "fnRadii", fn := fun _ => fun
  | [d] => { results := [.lit (.bool true)], args := [d] }
  | _ => none }
def fnRadiiRow : OpenClaim := { program := "ytfcbagjjpclplaa", sum := "9e60a17d3ee61cf96104546616349538a56e637c23ed499da94f4ee0b2c41906", func := "loop.example/g00915/laws.FnRadii", spec := "fnRadii", unfollowed := true, recurses := true, plainKeys := false, apart := false }
def FnRadiiSaid : Prop := fnRadiiRow.holds Try.pinned (OpenSpec.ofChange fnRadiiSpec)

/-- ITS FALSE NEIGHBOUR: 'it returns false'. Refute it at one input. -/
def fnRadiiWrong : ChangeSpec := { name := "fnRadii", fn := fun _ => fun
  | [d] => { results := [.lit (.bool false)], args := [d] }
  | _ => none }
def FnRadiiWrongFalsely : Prop := fnRadiiRow.holds Try.pinned (OpenSpec.ofChange fnRadiiWrong)

/-- 'laws.FnExactQuotientInterval': WHATEVER THE INPUT: true; the input reads as it did. -/
def fnExactQuotientIntervalSpec : ChangeSpec := { name := "fnExactQuotientInterval", fn := fun _ => fun
  | [d1, d2] => { results := [.lit (.bool true)], args := [d1, d2] }
  | _ => none }
def fnExactQuotientIntervalRow : OpenClaim := { program := "ytfcbagjjpclplaa", sum := "9e60a17d3ee61cf96104546616349538a56e637c23ed499da94f4ee0b2c41906", func := "loop.example/g00915/laws.FnExactQuotientInterval", spec := "fnExactQuotientInterval", unfollowed := true, recurses := true, plainKeys := false, apart := false }
def FnExactQuotientIntervalSaid : Prop := fnExactQuotientIntervalRow.holds Try.pinned (OpenSpec.ofChange fnExactQuotientIntervalSpec)

/-- ITS FALSE NEIGHBOUR: 'it returns false'. Refute it at one input. -/
def fnExactQuotientIntervalWrong : ChangeSpec := { name := "fnExactQuotientInterval", fn := fun _ => fun
  | [d1, d2] => { results := [.lit (.bool false)], args := [d1, d2] }
  | _ => none }
def FnExactQuotientIntervalWrongFalsely : Prop := fnExactQuotientIntervalRow.holds Try.pinned (OpenSpec.ofChange fnExactQuotientIntervalWrong)

/-- 'laws.FnExactLayerVerdict': WHATEVER THE INPUT: true; the input reads as it did. -/
def fnExactLayerVerdictSpec : ChangeSpec := { name := "fnExactLayerVerdict", fn := fun _ => fun
  | [d1, d2, d3, d4, d5] => { results := [.lit (.bool true)], args := [d1, d2, d3, d4, d5] }
  | _ => none }
def fnExactLayerVerdictRow : OpenClaim := { program := "ytfcbagjjpclplaa", sum := "9e60a17d3ee61cf96104546616349538a56e637c23ed499da94f4ee0b2c41906", func := "loop.example/g00915/laws.FnExactLayerVerdict", spec := "fnExactLayerVerdict", unfollowed := true, recurses := true, plainKeys := false, apart := false }
def FnExactLayerVerdictSaid : Prop := fnExactLayerVerdictRow.holds Try.pinned (OpenSpec.ofChange fnExactLayerVerdictSpec)

/-- ITS FALSE NEIGHBOUR: 'it returns false'. Refute it at one input. -/
def fnExactLayerVerdictWrong : ChangeSpec := { name := "fnExactLayerVerdict", fn := fun _ => fun
  | [d1, d2, d3, d4, d5] => { results := [.lit (.bool false)], args := [d1, d2, d3, d4, d5] }
  | _ => none }
def FnExactLayerVerdictWrongFalsely : Prop := fnExactLayerVerdictRow.holds Try.pinned (OpenSpec.ofChange fnExactLayerVerdictWrong)

/-- 'laws.FnExactTurnDepth': WHATEVER THE INPUT: true; the input reads as it did. -/
def fnExactTurnDepthSpec : ChangeSpec := { name := "fnExactTurnDepth", fn := fun _ => fun
  | [d1, d2, d3, d4, d5] => { results := [.lit (.bool true)], args := [d1, d2, d3, d4, d5] }
  | _ => none }
def fnExactTurnDepthRow : OpenClaim := { program := "ytfcbagjjpclplaa", sum := "9e60a17d3ee61cf96104546616349538a56e637c23ed499da94f4ee0b2c41906", func := "loop.example/g00915/laws.FnExactTurnDepth", spec := "fnExactTurnDepth", unfollowed := true, recurses := true, plainKeys := false, apart := false }
def FnExactTurnDepthSaid : Prop := fnExactTurnDepthRow.holds Try.pinned (OpenSpec.ofChange fnExactTurnDepthSpec)

/-- ITS FALSE NEIGHBOUR: 'it returns false'. Refute it at one input. -/
def fnExactTurnDepthWrong : ChangeSpec := { name := "fnExactTurnDepth", fn := fun _ => fun
  | [d1, d2, d3, d4, d5] => { results := [.lit (.bool false)], args := [d1, d2, d3, d4, d5] }
  | _ => none }
def FnExactTurnDepthWrongFalsely : Prop := fnExactTurnDepthRow.holds Try.pinned (OpenSpec.ofChange fnExactTurnDepthWrong)

/-- 'laws.FnExactArcRadius': WHATEVER THE INPUT: true; the input reads as it did. -/
def fnExactArcRadiusSpec : ChangeSpec := { name := "fnExactArcRadius", fn := fun _ => fun
  | [d1, d2, d3, d4] => { results := [.lit (.bool true)], args := [d1, d2, d3, d4] }
  | _ => none }
def fnExactArcRadiusRow : OpenClaim := { program := "ytfcbagjjpclplaa", sum := "9e60a17d3ee61cf96104546616349538a56e637c23ed499da94f4ee0b2c41906", func := "loop.example/g00915/laws.FnExactArcRadius", spec := "fnExactArcRadius", unfollowed := true, recurses := true, plainKeys := false, apart := false }
def FnExactArcRadiusSaid : Prop := fnExactArcRadiusRow.holds Try.pinned (OpenSpec.ofChange fnExactArcRadiusSpec)

/-- ITS FALSE NEIGHBOUR: 'it returns false'. Refute it at one input. -/
def fnExactArcRadiusWrong : ChangeSpec := { name := "fnExactArcRadius", fn := fun _ => fun
  | [d1, d2, d3, d4] => { results := [.lit (.bool false)], args := [d1, d2, d3, d4] }
  | _ => none }
def FnExactArcRadiusWrongFalsely : Prop := fnExactArcRadiusRow.holds Try.pinned (OpenSpec.ofChange fnExactArcRadiusWrong)

/- THE SECOND FORM. 'bulk': how many values and letters a reading holds, each counted each time it is reached (what is shared counts as often as it is met; a slice's spare places count too). A statement '..UptoSaid' is the law's where the arguments, and the package variables that the reading takes, are together of bulk at most 1048576: NARROWER than '..Said'. Prove '..Said' where nothing that the law and all that it calls make is longer than what came in: it says more and counts as full. Else prove '..UptoSaid'. A law counts once. -/
mutual
def uptoBulk {H : Type} : DataW H → Nat
  | .lit (.string bytes) => bytes.length + 1
  | .lit _ => 1
  | .nil => 1
  | .ptr d => uptoBulk d + 1
  | .slice elems spare => uptoBulkAll elems + uptoBulkAll spare + 1
  | .agg parts => uptoBulkAll parts + 1
  | .iface _ d => uptoBulk d + 1
  | .map entries => uptoBulkEntries entries + 1
  | .held _ => 1
def uptoBulkAll {H : Type} : List (DataW H) → Nat
  | [] => 0
  | d :: r => uptoBulk d + uptoBulkAll r
def uptoBulkEntries {H : Type} : List (Lit × DataW H) → Nat
  | [] => 0
  | x :: r => uptoBulkEntry x + uptoBulkEntries r
def uptoBulkEntry {H : Type} : Lit × DataW H → Nat
  | (.string bytes, d) => bytes.length + uptoBulk d + 1
  | (_, d) => uptoBulk d + 1
 end
def uptoSmall : (H : Type) → List (DataW H) → Bool := fun _ ds => decide (uptoBulkAll ds ≤ 1048576)
def OpenSpec.upto (s : _root_.Go.ChangeSpec) : _root_.Go.OpenSpec := { _root_.Go.OpenSpec.ofChange s with cond := some uptoSmall }

/-- 'laws.FnProducts', WHERE WHAT IT READS IS OF BULK AT MOST 1048576: true; the input reads as it did. -/
def fnProductsUptoRow : OpenClaim := { program := "ytfcbagjjpclplaa", sum := "9e60a17d3ee61cf96104546616349538a56e637c23ed499da94f4ee0b2c41906", func := "loop.example/g00915/laws.FnProducts", spec := "fnProducts", unfollowed := true, recurses := true, plainKeys := false, apart := false, narrowed := true }
def FnProductsUptoSaid : Prop := fnProductsUptoRow.holds Try.pinned (OpenSpec.upto fnProductsSpec)

/-- 'laws.FnRadii', WHERE WHAT IT READS IS OF BULK AT MOST 1048576: true; the input reads as it did. -/
def fnRadiiUptoRow : OpenClaim := { program := "ytfcbagjjpclplaa", sum := "9e60a17d3ee61cf96104546616349538a56e637c23ed499da94f4ee0b2c41906", func := "loop.example/g00915/laws.FnRadii", spec := "fnRadii", unfollowed := true, recurses := true, plainKeys := false, apart := false, narrowed := true }
def FnRadiiUptoSaid : Prop := fnRadiiUptoRow.holds Try.pinned (OpenSpec.upto fnRadiiSpec)

/-- 'laws.FnExactQuotientInterval', WHERE WHAT IT READS IS OF BULK AT MOST 1048576: true; the input reads as it did. -/
def fnExactQuotientIntervalUptoRow : OpenClaim := { program := "ytfcbagjjpclplaa", sum := "9e60a17d3ee61cf96104546616349538a56e637c23ed499da94f4ee0b2c41906", func := "loop.example/g00915/laws.FnExactQuotientInterval", spec := "fnExactQuotientInterval", unfollowed := true, recurses := true, plainKeys := false, apart := false, narrowed := true }
def FnExactQuotientIntervalUptoSaid : Prop := fnExactQuotientIntervalUptoRow.holds Try.pinned (OpenSpec.upto fnExactQuotientIntervalSpec)

/-- 'laws.FnExactLayerVerdict', WHERE WHAT IT READS IS OF BULK AT MOST 1048576: true; the input reads as it did. -/
def fnExactLayerVerdictUptoRow : OpenClaim := { program := "ytfcbagjjpclplaa", sum := "9e60a17d3ee61cf96104546616349538a56e637c23ed499da94f4ee0b2c41906", func := "loop.example/g00915/laws.FnExactLayerVerdict", spec := "fnExactLayerVerdict", unfollowed := true, recurses := true, plainKeys := false, apart := false, narrowed := true }
def FnExactLayerVerdictUptoSaid : Prop := fnExactLayerVerdictUptoRow.holds Try.pinned (OpenSpec.upto fnExactLayerVerdictSpec)

/-- 'laws.FnExactTurnDepth', WHERE WHAT IT READS IS OF BULK AT MOST 1048576: true; the input reads as it did. -/
def fnExactTurnDepthUptoRow : OpenClaim := { program := "ytfcbagjjpclplaa", sum := "9e60a17d3ee61cf96104546616349538a56e637c23ed499da94f4ee0b2c41906", func := "loop.example/g00915/laws.FnExactTurnDepth", spec := "fnExactTurnDepth", unfollowed := true, recurses := true, plainKeys := false, apart := false, narrowed := true }
def FnExactTurnDepthUptoSaid : Prop := fnExactTurnDepthUptoRow.holds Try.pinned (OpenSpec.upto fnExactTurnDepthSpec)

/-- 'laws.FnExactArcRadius', WHERE WHAT IT READS IS OF BULK AT MOST 1048576: true; the input reads as it did. -/
def fnExactArcRadiusUptoRow : OpenClaim := { program := "ytfcbagjjpclplaa", sum := "9e60a17d3ee61cf96104546616349538a56e637c23ed499da94f4ee0b2c41906", func := "loop.example/g00915/laws.FnExactArcRadius", spec := "fnExactArcRadius", unfollowed := true, recurses := true, plainKeys := false, apart := false, narrowed := true }
def FnExactArcRadiusUptoSaid : Prop := fnExactArcRadiusUptoRow.holds Try.pinned (OpenSpec.upto fnExactArcRadiusSpec)

end Rows
end Go.Proofs.Ytfcbagjjpclplaa
