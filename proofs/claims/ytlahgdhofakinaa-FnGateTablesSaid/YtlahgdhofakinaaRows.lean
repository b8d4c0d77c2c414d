/-
  No cell of these rows narrows 'for every input' (looked for: loops, veiled, ifaces, maps, wideKeys, modest, calm, conditions, laid).
  DERIVED. THE GIVEN ROWS OF THIS SEAT. 13 by the template 'for every input the law returns true; each argument reads behind the call as it read before'; 0 by the template 'total and deterministic' (their statements: YtlahgdhofakinaaTotals.lean).
  GIVEN WITH THE SEED: the statements are not yours to turn. If you find one false, say at which input.
  Laid BY PROGRAM, IN A SANDBOX (cutbox-rows.mjs): the forced cells as the released guide's own fill.sh prints them over the translation 380a106e832fe6fd… (all of the seat's roots in one cut). By AI agents, Wed Nov 11 2026. No macro, syntax, notation, axiom, sorry.
-/
import Derived.Test.YtlahgdhofakinaaChecked
import GoSem.Claim
import GoSem.ClaimJoined
import GoSem.ClaimMapViews
import Derived.JoinedTies
import Derived.KernelRfl
namespace Go.Proofs.Ytlahgdhofakinaa
/- THE CELL 'sum', in the pinned program and in every row, IS THE sha256 OF THE DUMP (.gsa) THAT YtlahgdhofakinaaProg.lean LOADS. Nothing in Lean hashes anything: it is a label: what it is worth is what the hold of that sum in a sandbox is worth. -/
noncomputable def Try.pinned : Pinned := { name := "ytlahgdhofakinaa", sum := "380a106e832fe6fd4637d2e5418855e7d1fa70fa168913655e28ecfec3179a63", checked := Try.checked }
namespace Rows
def none {H : Type} : Left H := { results := [], args := [] }

/-- 'laws.FnGateTables': WHATEVER THE INPUT: true; the input reads as it did. -/
def fnGateTablesSpec : ChangeSpec := { name := "fnGateTables", fn := fun _ => fun
  | [d] => { results := [.lit (.bool true)], args := [d] }
  | _ => none }
def fnGateTablesRow : OpenClaim := { program := "ytlahgdhofakinaa", sum := "380a106e832fe6fd4637d2e5418855e7d1fa70fa168913655e28ecfec3179a63", func := "loop.example/g00915/laws.FnGateTables", spec := "fnGateTables", unfollowed := true, recurses := true, plainKeys := false, apart := false }
def FnGateTablesSaid : Prop := fnGateTablesRow.holds Try.pinned (OpenSpec.ofChange fnGateTablesSpec)

/-- ITS FALSE NEIGHBOUR: 'it returns false'. Refute it at one input. -/
def fnGateTablesWrong : ChangeSpec := { name := "fnGateTables", fn := fun _ => fun
  | [d] => { results := [.lit (.bool false)], args := [d] }
  | _ => none }
def FnGateTablesWrongFalsely : Prop := fnGateTablesRow.holds Try.pinned (OpenSpec.ofChange fnGateTablesWrong)

/-- 'laws.FnPairings': WHATEVER THE INPUT: true; the input reads as it did. -/
def fnPairingsSpec : ChangeSpec := { name := "fnPairings", fn := fun _ => fun
  | [d] => { results := [.lit (.bool true)], args := [d] }
  | _ => none }
def fnPairingsRow : OpenClaim := { program := "ytlahgdhofakinaa", sum := "380a106e832fe6fd4637d2e5418855e7d1fa70fa168913655e28ecfec3179a63", func := "loop.example/g00915/laws.FnPairings", spec := "fnPairings", unfollowed := true, recurses := true, plainKeys := false, apart := false }
def FnPairingsSaid : Prop := fnPairingsRow.holds Try.pinned (OpenSpec.ofChange fnPairingsSpec)

/-- ITS FALSE NEIGHBOUR: 'it returns false'. Refute it at one input. -/
def fnPairingsWrong : ChangeSpec := { name := "fnPairings", fn := fun _ => fun
  | [d] => { results := [.lit (.bool false)], args := [d] }
  | _ => none }
def FnPairingsWrongFalsely : Prop := fnPairingsRow.holds Try.pinned (OpenSpec.ofChange fnPairingsWrong)

/-- 'laws.FnGreedyPairs': WHATEVER THE INPUT: true; the input reads as it did. -/
def fnGreedyPairsSpec : ChangeSpec := { name := "fnGreedyPairs", fn := fun _ => fun
  | [d] => { results := [.lit (.bool true)], args := [d] }
  | _ => none }
def fnGreedyPairsRow : OpenClaim := { program := "ytlahgdhofakinaa", sum := "380a106e832fe6fd4637d2e5418855e7d1fa70fa168913655e28ecfec3179a63", func := "loop.example/g00915/laws.FnGreedyPairs", spec := "fnGreedyPairs", unfollowed := true, recurses := true, plainKeys := false, apart := false }
def FnGreedyPairsSaid : Prop := fnGreedyPairsRow.holds Try.pinned (OpenSpec.ofChange fnGreedyPairsSpec)

/-- ITS FALSE NEIGHBOUR: 'it returns false'. Refute it at one input. -/
def fnGreedyPairsWrong : ChangeSpec := { name := "fnGreedyPairs", fn := fun _ => fun
  | [d] => { results := [.lit (.bool false)], args := [d] }
  | _ => none }
def FnGreedyPairsWrongFalsely : Prop := fnGreedyPairsRow.holds Try.pinned (OpenSpec.ofChange fnGreedyPairsWrong)

/-- 'laws.FnPairingCounts': WHATEVER THE INPUT: true; the input reads as it did. -/
def fnPairingCountsSpec : ChangeSpec := { name := "fnPairingCounts", fn := fun _ => fun
  | [d] => { results := [.lit (.bool true)], args := [d] }
  | _ => none }
def fnPairingCountsRow : OpenClaim := { program := "ytlahgdhofakinaa", sum := "380a106e832fe6fd4637d2e5418855e7d1fa70fa168913655e28ecfec3179a63", func := "loop.example/g00915/laws.FnPairingCounts", spec := "fnPairingCounts", unfollowed := true, recurses := true, plainKeys := false, apart := false }
def FnPairingCountsSaid : Prop := fnPairingCountsRow.holds Try.pinned (OpenSpec.ofChange fnPairingCountsSpec)

/-- ITS FALSE NEIGHBOUR: 'it returns false'. Refute it at one input. -/
def fnPairingCountsWrong : ChangeSpec := { name := "fnPairingCounts", fn := fun _ => fun
  | [d] => { results := [.lit (.bool false)], args := [d] }
  | _ => none }
def FnPairingCountsWrongFalsely : Prop := fnPairingCountsRow.holds Try.pinned (OpenSpec.ofChange fnPairingCountsWrong)

/-- 'laws.FnExactAreCosts': WHATEVER THE INPUT: true; the input reads as it did. -/
def fnExactAreCostsSpec : ChangeSpec := { name := "fnExactAreCosts", fn := fun _ => fun
  | [d] => { results := [.lit (.bool true)], args := [d] }
  | _ => none }
def fnExactAreCostsRow : OpenClaim := { program := "ytlahgdhofakinaa", sum := "380a106e832fe6fd4637d2e5418855e7d1fa70fa168913655e28ecfec3179a63", func := "loop.example/g00915/laws.FnExactAreCosts", spec := "fnExactAreCosts", unfollowed := true, recurses := true, plainKeys := false, apart := false }
def FnExactAreCostsSaid : Prop := fnExactAreCostsRow.holds Try.pinned (OpenSpec.ofChange fnExactAreCostsSpec)

/-- ITS FALSE NEIGHBOUR: 'it returns false'. Refute it at one input. -/
def fnExactAreCostsWrong : ChangeSpec := { name := "fnExactAreCosts", fn := fun _ => fun
  | [d] => { results := [.lit (.bool false)], args := [d] }
  | _ => none }
def FnExactAreCostsWrongFalsely : Prop := fnExactAreCostsRow.holds Try.pinned (OpenSpec.ofChange fnExactAreCostsWrong)

/-- 'laws.FnExactIsPairing': WHATEVER THE INPUT: true; the input reads as it did. -/
def fnExactIsPairingSpec : ChangeSpec := { name := "fnExactIsPairing", fn := fun _ => fun
  | [d1, d2] => { results := [.lit (.bool true)], args := [d1, d2] }
  | _ => none }
def fnExactIsPairingRow : OpenClaim := { program := "ytlahgdhofakinaa", sum := "380a106e832fe6fd4637d2e5418855e7d1fa70fa168913655e28ecfec3179a63", func := "loop.example/g00915/laws.FnExactIsPairing", spec := "fnExactIsPairing", unfollowed := true, recurses := true, plainKeys := false, apart := false }
def FnExactIsPairingSaid : Prop := fnExactIsPairingRow.holds Try.pinned (OpenSpec.ofChange fnExactIsPairingSpec)

/-- ITS FALSE NEIGHBOUR: 'it returns false'. Refute it at one input. -/
def fnExactIsPairingWrong : ChangeSpec := { name := "fnExactIsPairing", fn := fun _ => fun
  | [d1, d2] => { results := [.lit (.bool false)], args := [d1, d2] }
  | _ => none }
def FnExactIsPairingWrongFalsely : Prop := fnExactIsPairingRow.holds Try.pinned (OpenSpec.ofChange fnExactIsPairingWrong)

/-- 'laws.FnExactSumOfPairs': WHATEVER THE INPUT: true; the input reads as it did. -/
def fnExactSumOfPairsSpec : ChangeSpec := { name := "fnExactSumOfPairs", fn := fun _ => fun
  | [d1, d2, d3] => { results := [.lit (.bool true)], args := [d1, d2, d3] }
  | _ => none }
def fnExactSumOfPairsRow : OpenClaim := { program := "ytlahgdhofakinaa", sum := "380a106e832fe6fd4637d2e5418855e7d1fa70fa168913655e28ecfec3179a63", func := "loop.example/g00915/laws.FnExactSumOfPairs", spec := "fnExactSumOfPairs", unfollowed := true, recurses := true, plainKeys := false, apart := false }
def FnExactSumOfPairsSaid : Prop := fnExactSumOfPairsRow.holds Try.pinned (OpenSpec.ofChange fnExactSumOfPairsSpec)

/-- ITS FALSE NEIGHBOUR: 'it returns false'. Refute it at one input. -/
def fnExactSumOfPairsWrong : ChangeSpec := { name := "fnExactSumOfPairs", fn := fun _ => fun
  | [d1, d2, d3] => { results := [.lit (.bool false)], args := [d1, d2, d3] }
  | _ => none }
def FnExactSumOfPairsWrongFalsely : Prop := fnExactSumOfPairsRow.holds Try.pinned (OpenSpec.ofChange fnExactSumOfPairsWrong)

/-- 'laws.FnExactBestPairs': WHATEVER THE INPUT: true; the input reads as it did. -/
def fnExactBestPairsSpec : ChangeSpec := { name := "fnExactBestPairs", fn := fun _ => fun
  | [d1, d2] => { results := [.lit (.bool true)], args := [d1, d2] }
  | _ => none }
def fnExactBestPairsRow : OpenClaim := { program := "ytlahgdhofakinaa", sum := "380a106e832fe6fd4637d2e5418855e7d1fa70fa168913655e28ecfec3179a63", func := "loop.example/g00915/laws.FnExactBestPairs", spec := "fnExactBestPairs", unfollowed := true, recurses := true, plainKeys := false, apart := false }
def FnExactBestPairsSaid : Prop := fnExactBestPairsRow.holds Try.pinned (OpenSpec.ofChange fnExactBestPairsSpec)

/-- ITS FALSE NEIGHBOUR: 'it returns false'. Refute it at one input. -/
def fnExactBestPairsWrong : ChangeSpec := { name := "fnExactBestPairs", fn := fun _ => fun
  | [d1, d2] => { results := [.lit (.bool false)], args := [d1, d2] }
  | _ => none }
def FnExactBestPairsWrongFalsely : Prop := fnExactBestPairsRow.holds Try.pinned (OpenSpec.ofChange fnExactBestPairsWrong)

/-- 'laws.FnExactLeastSum': WHATEVER THE INPUT: true; the input reads as it did. -/
def fnExactLeastSumSpec : ChangeSpec := { name := "fnExactLeastSum", fn := fun _ => fun
  | [d1, d2] => { results := [.lit (.bool true)], args := [d1, d2] }
  | _ => none }
def fnExactLeastSumRow : OpenClaim := { program := "ytlahgdhofakinaa", sum := "380a106e832fe6fd4637d2e5418855e7d1fa70fa168913655e28ecfec3179a63", func := "loop.example/g00915/laws.FnExactLeastSum", spec := "fnExactLeastSum", unfollowed := true, recurses := true, plainKeys := false, apart := false }
def FnExactLeastSumSaid : Prop := fnExactLeastSumRow.holds Try.pinned (OpenSpec.ofChange fnExactLeastSumSpec)

/-- ITS FALSE NEIGHBOUR: 'it returns false'. Refute it at one input. -/
def fnExactLeastSumWrong : ChangeSpec := { name := "fnExactLeastSum", fn := fun _ => fun
  | [d1, d2] => { results := [.lit (.bool false)], args := [d1, d2] }
  | _ => none }
def FnExactLeastSumWrongFalsely : Prop := fnExactLeastSumRow.holds Try.pinned (OpenSpec.ofChange fnExactLeastSumWrong)

/-- 'laws.FnExactGreedyPairs': WHATEVER THE INPUT: true; the input reads as it did. -/
def fnExactGreedyPairsSpec : ChangeSpec := { name := "fnExactGreedyPairs", fn := fun _ => fun
  | [d1, d2] => { results := [.lit (.bool true)], args := [d1, d2] }
  | _ => none }
def fnExactGreedyPairsRow : OpenClaim := { program := "ytlahgdhofakinaa", sum := "380a106e832fe6fd4637d2e5418855e7d1fa70fa168913655e28ecfec3179a63", func := "loop.example/g00915/laws.FnExactGreedyPairs", spec := "fnExactGreedyPairs", unfollowed := true, recurses := true, plainKeys := false, apart := false }
def FnExactGreedyPairsSaid : Prop := fnExactGreedyPairsRow.holds Try.pinned (OpenSpec.ofChange fnExactGreedyPairsSpec)

/-- ITS FALSE NEIGHBOUR: 'it returns false'. Refute it at one input. -/
def fnExactGreedyPairsWrong : ChangeSpec := { name := "fnExactGreedyPairs", fn := fun _ => fun
  | [d1, d2] => { results := [.lit (.bool false)], args := [d1, d2] }
  | _ => none }
def FnExactGreedyPairsWrongFalsely : Prop := fnExactGreedyPairsRow.holds Try.pinned (OpenSpec.ofChange fnExactGreedyPairsWrong)

/-- 'laws.FnExactCountPairings': WHATEVER THE INPUT: true; the input reads as it did. -/
def fnExactCountPairingsSpec : ChangeSpec := { name := "fnExactCountPairings", fn := fun _ => fun
  | [d] => { results := [.lit (.bool true)], args := [d] }
  | _ => none }
def fnExactCountPairingsRow : OpenClaim := { program := "ytlahgdhofakinaa", sum := "380a106e832fe6fd4637d2e5418855e7d1fa70fa168913655e28ecfec3179a63", func := "loop.example/g00915/laws.FnExactCountPairings", spec := "fnExactCountPairings", unfollowed := true, recurses := true, plainKeys := false, apart := false }
def FnExactCountPairingsSaid : Prop := fnExactCountPairingsRow.holds Try.pinned (OpenSpec.ofChange fnExactCountPairingsSpec)

/-- ITS FALSE NEIGHBOUR: 'it returns false'. Refute it at one input. -/
def fnExactCountPairingsWrong : ChangeSpec := { name := "fnExactCountPairings", fn := fun _ => fun
  | [d] => { results := [.lit (.bool false)], args := [d] }
  | _ => none }
def FnExactCountPairingsWrongFalsely : Prop := fnExactCountPairingsRow.holds Try.pinned (OpenSpec.ofChange fnExactCountPairingsWrong)

/-- 'laws.FnExactSumBound': WHATEVER THE INPUT: true; the input reads as it did. -/
def fnExactSumBoundSpec : ChangeSpec := { name := "fnExactSumBound", fn := fun _ => fun
  | [d1, d2] => { results := [.lit (.bool true)], args := [d1, d2] }
  | _ => none }
def fnExactSumBoundRow : OpenClaim := { program := "ytlahgdhofakinaa", sum := "380a106e832fe6fd4637d2e5418855e7d1fa70fa168913655e28ecfec3179a63", func := "loop.example/g00915/laws.FnExactSumBound", spec := "fnExactSumBound", unfollowed := true, recurses := true, plainKeys := false, apart := false }
def FnExactSumBoundSaid : Prop := fnExactSumBoundRow.holds Try.pinned (OpenSpec.ofChange fnExactSumBoundSpec)

/-- ITS FALSE NEIGHBOUR: 'it returns false'. Refute it at one input. -/
def fnExactSumBoundWrong : ChangeSpec := { name := "fnExactSumBound", fn := fun _ => fun
  | [d1, d2] => { results := [.lit (.bool false)], args := [d1, d2] }
  | _ => none }
def FnExactSumBoundWrongFalsely : Prop := fnExactSumBoundRow.holds Try.pinned (OpenSpec.ofChange fnExactSumBoundWrong)

/-- 'laws.FnExactFreeContacts': WHATEVER THE INPUT: true; the input reads as it did. -/
def fnExactFreeContactsSpec : ChangeSpec := { name := "fnExactFreeContacts", fn := fun _ => fun
  | [d1, d2] => { results := [.lit (.bool true)], args := [d1, d2] }
  | _ => none }
def fnExactFreeContactsRow : OpenClaim := { program := "ytlahgdhofakinaa", sum := "380a106e832fe6fd4637d2e5418855e7d1fa70fa168913655e28ecfec3179a63", func := "loop.example/g00915/laws.FnExactFreeContacts", spec := "fnExactFreeContacts", unfollowed := true, recurses := true, plainKeys := false, apart := false }
def FnExactFreeContactsSaid : Prop := fnExactFreeContactsRow.holds Try.pinned (OpenSpec.ofChange fnExactFreeContactsSpec)

/-- ITS FALSE NEIGHBOUR: 'it returns false'. Refute it at one input. -/
def fnExactFreeContactsWrong : ChangeSpec := { name := "fnExactFreeContacts", fn := fun _ => fun
  | [d1, d2] => { results := [.lit (.bool false)], args := [d1, d2] }
  | _ => none }
def FnExactFreeContactsWrongFalsely : Prop := fnExactFreeContactsRow.holds Try.pinned (OpenSpec.ofChange fnExactFreeContactsWrong)

/- THE SECOND FORM. 'bulk': how many values and letters a reading holds, each counted each time it is reached (what is shared counts as often as it is met; a slice's spare places count too). A statement '..UptoSaid' is the law's where the arguments, and the package variables that the reading takes, are together of bulk at most 1048576: NARROWER than '..Said'. Prove '..Said' where nothing that the law and all that it calls make is longer than what came in: it says more and counts as full. Else prove '..UptoSaid'. A law counts once. -/
mutual
def uptoBulk {H : Type} : DataW H → Nat
  | .lit (.string bytes) => bytes.length + 1
  | .lit _ => 1
  | .nil => 1
  | .ptr d => uptoBulk d + 1
  | .slice elems spare => uptoBulkAll elems + uptoBulkAll spare + 1
  | .agg parts => uptoBulkAll parts + 1
  | .iface _ d => uptoBulk d + 1
  | .map entries => uptoBulkEntries entries + 1
  | .held _ => 1
def uptoBulkAll {H : Type} : List (DataW H) → Nat
  | [] => 0
  | d :: r => uptoBulk d + uptoBulkAll r
def uptoBulkEntries {H : Type} : List (Lit × DataW H) → Nat
  | [] => 0
  | x :: r => uptoBulkEntry x + uptoBulkEntries r
def uptoBulkEntry {H : Type} : Lit × DataW H → Nat
  | (.string bytes, d) => bytes.length + uptoBulk d + 1
  | (_, d) => uptoBulk d + 1
 end
def uptoSmall : (H : Type) → List (DataW H) → Bool := fun _ ds => decide (uptoBulkAll ds ≤ 1048576)
def OpenSpec.upto (s : _root_.Go.ChangeSpec) : _root_.Go.OpenSpec := { _root_.Go.OpenSpec.ofChange s with cond := some uptoSmall }

/-- 'laws.FnGateTables', WHERE WHAT IT READS IS OF BULK AT MOST 1048576: true; the input reads as it did. -/
def fnGateTablesUptoRow : OpenClaim := { program := "ytlahgdhofakinaa", sum := "380a106e832fe6fd4637d2e5418855e7d1fa70fa168913655e28ecfec3179a63", func := "loop.example/g00915/laws.FnGateTables", spec := "fnGateTables", unfollowed := true, recurses := true, plainKeys := false, apart := false, narrowed := true }
def FnGateTablesUptoSaid : Prop := fnGateTablesUptoRow.holds Try.pinned (OpenSpec.upto fnGateTablesSpec)

/-- 'laws.FnPairings', WHERE WHAT IT READS IS OF BULK AT MOST 1048576: true; the input reads as it did. -/
def fnPairingsUptoRow : OpenClaim := { program := "ytlahgdhofakinaa", sum := "380a106e832fe6fd4637d2e5418855e7d1fa70fa168913655e28ecfec3179a63", func := "loop.example/g00915/laws.FnPairings", spec := "fnPairings", unfollowed := true, recurses := true, plainKeys := false, apart := false, narrowed := true }
def FnPairingsUptoSaid : Prop := fnPairingsUptoRow.holds Try.pinned (OpenSpec.upto fnPairingsSpec)

/-- 'laws.FnGreedyPairs', WHERE WHAT IT READS IS OF BULK AT MOST 1048576: true; the input reads as it did. -/
def fnGreedyPairsUptoRow : OpenClaim := { program := "ytlahgdhofakinaa", sum := "380a106e832fe6fd4637d2e5418855e7d1fa70fa168913655e28ecfec3179a63", func := "loop.example/g00915/laws.FnGreedyPairs", spec := "fnGreedyPairs", unfollowed := true, recurses := true, plainKeys := false, apart := false, narrowed := true }
def FnGreedyPairsUptoSaid : Prop := fnGreedyPairsUptoRow.holds Try.pinned (OpenSpec.upto fnGreedyPairsSpec)

/-- 'laws.FnPairingCounts', WHERE WHAT IT READS IS OF BULK AT MOST 1048576: true; the input reads as it did. -/
def fnPairingCountsUptoRow : OpenClaim := { program := "ytlahgdhofakinaa", sum := "380a106e832fe6fd4637d2e5418855e7d1fa70fa168913655e28ecfec3179a63", func := "loop.example/g00915/laws.FnPairingCounts", spec := "fnPairingCounts", unfollowed := true, recurses := true, plainKeys := false, apart := false, narrowed := true }
def FnPairingCountsUptoSaid : Prop := fnPairingCountsUptoRow.holds Try.pinned (OpenSpec.upto fnPairingCountsSpec)

/-- 'laws.FnExactAreCosts', WHERE WHAT IT READS IS OF BULK AT MOST 1048576: true; the input reads as it did. -/
def fnExactAreCostsUptoRow : OpenClaim := { program := "ytlahgdhofakinaa", sum := "380a106e832fe6fd4637d2e5418855e7d1fa70fa168913655e28ecfec3179a63", func := "loop.example/g00915/laws.FnExactAreCosts", spec := "fnExactAreCosts", unfollowed := true, recurses := true, plainKeys := false, apart := false, narrowed := true }
def FnExactAreCostsUptoSaid : Prop := fnExactAreCostsUptoRow.holds Try.pinned (OpenSpec.upto fnExactAreCostsSpec)

/-- 'laws.FnExactIsPairing', WHERE WHAT IT READS IS OF BULK AT MOST 1048576: true; the input reads as it did. -/
def fnExactIsPairingUptoRow : OpenClaim := { program := "ytlahgdhofakinaa", sum := "380a106e832fe6fd4637d2e5418855e7d1fa70fa168913655e28ecfec3179a63", func := "loop.example/g00915/laws.FnExactIsPairing", spec := "fnExactIsPairing", unfollowed := true, recurses := true, plainKeys := false, apart := false, narrowed := true }
def FnExactIsPairingUptoSaid : Prop := fnExactIsPairingUptoRow.holds Try.pinned (OpenSpec.upto fnExactIsPairingSpec)

/-- 'laws.FnExactSumOfPairs', WHERE WHAT IT READS IS OF BULK AT MOST 1048576: true; the input reads as it did. -/
def fnExactSumOfPairsUptoRow : OpenClaim := { program := "ytlahgdhofakinaa", sum := "380a106e832fe6fd4637d2e5418855e7d1fa70fa168913655e28ecfec3179a63", func := "loop.example/g00915/laws.FnExactSumOfPairs", spec := "fnExactSumOfPairs", unfollowed := true, recurses := true, plainKeys := false, apart := false, narrowed := true }
def FnExactSumOfPairsUptoSaid : Prop := fnExactSumOfPairsUptoRow.holds Try.pinned (OpenSpec.upto fnExactSumOfPairsSpec)

/-- 'laws.FnExactBestPairs', WHERE WHAT IT READS IS OF BULK AT MOST 1048576: true; the input reads as it did. -/
def fnExactBestPairsUptoRow : OpenClaim := { program := "ytlahgdhofakinaa", sum := "380a106e832fe6fd4637d2e5418855e7d1fa70fa168913655e28ecfec3179a63", func := "loop.example/g00915/laws.FnExactBestPairs", spec := "fnExactBestPairs", unfollowed := true, recurses := true, plainKeys := false, apart := false, narrowed := true }
def FnExactBestPairsUptoSaid : Prop := fnExactBestPairsUptoRow.holds Try.pinned (OpenSpec.upto fnExactBestPairsSpec)

/-- 'laws.FnExactLeastSum', WHERE WHAT IT READS IS OF BULK AT MOST 1048576: true; the input reads as it did. -/
def fnExactLeastSumUptoRow : OpenClaim := { program := "ytlahgdhofakinaa", sum := "380a106e832fe6fd4637d2e5418855e7d1fa70fa168913655e28ecfec3179a63", func := "loop.example/g00915/laws.FnExactLeastSum", spec := "fnExactLeastSum", unfollowed := true, recurses := true, plainKeys := false, apart := false, narrowed := true }
def FnExactLeastSumUptoSaid : Prop := fnExactLeastSumUptoRow.holds Try.pinned (OpenSpec.upto fnExactLeastSumSpec)

/-- 'laws.FnExactGreedyPairs', WHERE WHAT IT READS IS OF BULK AT MOST 1048576: true; the input reads as it did. -/
def fnExactGreedyPairsUptoRow : OpenClaim := { program := "ytlahgdhofakinaa", sum := "380a106e832fe6fd4637d2e5418855e7d1fa70fa168913655e28ecfec3179a63", func := "loop.example/g00915/laws.FnExactGreedyPairs", spec := "fnExactGreedyPairs", unfollowed := true, recurses := true, plainKeys := false, apart := false, narrowed := true }
def FnExactGreedyPairsUptoSaid : Prop := fnExactGreedyPairsUptoRow.holds Try.pinned (OpenSpec.upto fnExactGreedyPairsSpec)

/-- 'laws.FnExactCountPairings', WHERE WHAT IT READS IS OF BULK AT MOST 1048576: true; the input reads as it did. -/
def fnExactCountPairingsUptoRow : OpenClaim := { program := "ytlahgdhofakinaa", sum := "380a106e832fe6fd4637d2e5418855e7d1fa70fa168913655e28ecfec3179a63", func := "loop.example/g00915/laws.FnExactCountPairings", spec := "fnExactCountPairings", unfollowed := true, recurses := true, plainKeys := false, apart := false, narrowed := true }
def FnExactCountPairingsUptoSaid : Prop := fnExactCountPairingsUptoRow.holds Try.pinned (OpenSpec.upto fnExactCountPairingsSpec)

/-- 'laws.FnExactSumBound', WHERE WHAT IT READS IS OF BULK AT MOST 1048576: true; the input reads as it did. -/
def fnExactSumBoundUptoRow : OpenClaim := { program := "ytlahgdhofakinaa", sum := "380a106e832fe6fd4637d2e5418855e7d1fa70fa168913655e28ecfec3179a63", func := "loop.example/g00915/laws.FnExactSumBound", spec := "fnExactSumBound", unfollowed := true, recurses := true, plainKeys := false, apart := false, narrowed := true }
def FnExactSumBoundUptoSaid : Prop := fnExactSumBoundUptoRow.holds Try.pinned (OpenSpec.upto fnExactSumBoundSpec)

/-- 'laws.FnExactFreeContacts', WHERE WHAT IT READS IS OF BULK AT MOST 1048576: true; the input reads as it did. -/
def fnExactFreeContactsUptoRow : OpenClaim := { program := "ytlahgdhofakinaa", sum := "380a106e832fe6fd4637d2e5418855e7d1fa70fa168913655e28ecfec3179a63", func := "loop.example/g00915/laws.FnExactFreeContacts", spec := "fnExactFreeContacts", unfollowed := true, recurses := true, plainKeys := false, apart := false, narrowed := true }
def FnExactFreeContactsUptoSaid : Prop := fnExactFreeContactsUptoRow.holds Try.pinned (OpenSpec.upto fnExactFreeContactsSpec)

end Rows
end Go.Proofs.Ytlahgdhofakinaa
