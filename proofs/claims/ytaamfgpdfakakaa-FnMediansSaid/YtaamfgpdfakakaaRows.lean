/-
  No cell of these rows narrows 'for every input' (looked for: loops, veiled, ifaces, maps, wideKeys, modest, calm, conditions, laid).
  DERIVED. THE GIVEN ROWS OF THIS SEAT. 15 by the template 'for every input the law returns true; each argument reads behind the call as it read before'; 0 by the template 'total and deterministic' (their statements: YtaamfgpdfakakaaTotals.lean).
  GIVEN WITH THE SEED: the statements are not yours to turn. If you find one false, say at which input.
  Laid BY PROGRAM, IN A SANDBOX (cutbox-rows.mjs): the forced cells as the released guide's own fill.sh prints them over the translation 7ae4822709fcf8bb… (all of the seat's roots in one cut). By AI agents, Wed Nov 11 2026. No macro, syntax, notation, axiom, sorry.
-/
import Derived.Test.YtaamfgpdfakakaaChecked
import GoSem.Claim
import GoSem.ClaimJoined
import GoSem.ClaimMapViews
import Derived.JoinedTies
import Derived.KernelRfl
namespace Go.Proofs.Ytaamfgpdfakakaa
/- THE CELL 'sum', in the pinned program and in every row, IS THE sha256 OF THE DUMP (.gsa) THAT YtaamfgpdfakakaaProg.lean LOADS. Nothing in Lean hashes anything: it is a label: what it is worth is what the hold of that sum in a sandbox is worth. -/
noncomputable def Try.pinned : Pinned := { name := "ytaamfgpdfakakaa", sum := "7ae4822709fcf8bbac55e308c539fff2ae749e1b3bcde0fc1528ea16f3a11b62", checked := Try.checked }
namespace Rows
def none {H : Type} : Left H := { results := [], args := [] }

/-- 'laws.FnQuotients': WHATEVER THE INPUT: true; the input reads as it did. -/
def fnQuotientsSpec : ChangeSpec := { name := "fnQuotients", fn := fun _ => fun
  | [d] => { results := [.lit (.bool true)], args := [d] }
  | _ => none }
def fnQuotientsRow : OpenClaim := { program := "ytaamfgpdfakakaa", sum := "7ae4822709fcf8bbac55e308c539fff2ae749e1b3bcde0fc1528ea16f3a11b62", func := "loop.example/g00915/laws.FnQuotients", spec := "fnQuotients", apart := false }
def FnQuotientsSaid : Prop := fnQuotientsRow.holds Try.pinned (OpenSpec.ofChange fnQuotientsSpec)

/-- ITS FALSE NEIGHBOUR: 'it returns false'. Refute it at one input. -/
def fnQuotientsWrong : ChangeSpec := { name := "fnQuotients", fn := fun _ => fun
  | [d] => { results := [.lit (.bool false)], args := [d] }
  | _ => none }
def FnQuotientsWrongFalsely : Prop := fnQuotientsRow.holds Try.pinned (OpenSpec.ofChange fnQuotientsWrong)

/-- 'laws.FnMedians': WHATEVER THE INPUT: true; the input reads as it did. -/
def fnMediansSpec : ChangeSpec := { name := "fnMedians", fn := fun _ => fun
  | [d] => { results := [.lit (.bool true)], args := [d] }
  | _ => none }
def fnMediansRow : OpenClaim := { program := "ytaamfgpdfakakaa", sum := "7ae4822709fcf8bbac55e308c539fff2ae749e1b3bcde0fc1528ea16f3a11b62", func := "loop.example/g00915/laws.FnMedians", spec := "fnMedians", recurses := true, apart := false }
def FnMediansSaid : Prop := fnMediansRow.holds Try.pinned (OpenSpec.ofChange fnMediansSpec)

/-- ITS FALSE NEIGHBOUR: 'it returns false'. Refute it at one input. -/
def fnMediansWrong : ChangeSpec := { name := "fnMedians", fn := fun _ => fun
  | [d] => { results := [.lit (.bool false)], args := [d] }
  | _ => none }
def FnMediansWrongFalsely : Prop := fnMediansRow.holds Try.pinned (OpenSpec.ofChange fnMediansWrong)

/-- 'laws.FnExactQuotientBounds': WHATEVER THE INPUT: true; the input reads as it did. -/
def fnExactQuotientBoundsSpec : ChangeSpec := { name := "fnExactQuotientBounds", fn := fun _ => fun
  | [d1, d2] => { results := [.lit (.bool true)], args := [d1, d2] }
  | _ => none }
def fnExactQuotientBoundsRow : OpenClaim := { program := "ytaamfgpdfakakaa", sum := "7ae4822709fcf8bbac55e308c539fff2ae749e1b3bcde0fc1528ea16f3a11b62", func := "loop.example/g00915/laws.FnExactQuotientBounds", spec := "fnExactQuotientBounds", apart := false }
def FnExactQuotientBoundsSaid : Prop := fnExactQuotientBoundsRow.holds Try.pinned (OpenSpec.ofChange fnExactQuotientBoundsSpec)

/-- ITS FALSE NEIGHBOUR: 'it returns false'. Refute it at one input. -/
def fnExactQuotientBoundsWrong : ChangeSpec := { name := "fnExactQuotientBounds", fn := fun _ => fun
  | [d1, d2] => { results := [.lit (.bool false)], args := [d1, d2] }
  | _ => none }
def FnExactQuotientBoundsWrongFalsely : Prop := fnExactQuotientBoundsRow.holds Try.pinned (OpenSpec.ofChange fnExactQuotientBoundsWrong)

/-- 'laws.FnExactMedianOf': WHATEVER THE INPUT: true; the input reads as it did. -/
def fnExactMedianOfSpec : ChangeSpec := { name := "fnExactMedianOf", fn := fun _ => fun
  | [d] => { results := [.lit (.bool true)], args := [d] }
  | _ => none }
def fnExactMedianOfRow : OpenClaim := { program := "ytaamfgpdfakakaa", sum := "7ae4822709fcf8bbac55e308c539fff2ae749e1b3bcde0fc1528ea16f3a11b62", func := "loop.example/g00915/laws.FnExactMedianOf", spec := "fnExactMedianOf", recurses := true, apart := false }
def FnExactMedianOfSaid : Prop := fnExactMedianOfRow.holds Try.pinned (OpenSpec.ofChange fnExactMedianOfSpec)

/-- ITS FALSE NEIGHBOUR: 'it returns false'. Refute it at one input. -/
def fnExactMedianOfWrong : ChangeSpec := { name := "fnExactMedianOf", fn := fun _ => fun
  | [d] => { results := [.lit (.bool false)], args := [d] }
  | _ => none }
def FnExactMedianOfWrongFalsely : Prop := fnExactMedianOfRow.holds Try.pinned (OpenSpec.ofChange fnExactMedianOfWrong)

/-- 'laws.FnIntervalSums': WHATEVER THE INPUT: true; the input reads as it did. -/
def fnIntervalSumsSpec : ChangeSpec := { name := "fnIntervalSums", fn := fun _ => fun
  | [d] => { results := [.lit (.bool true)], args := [d] }
  | _ => none }
def fnIntervalSumsRow : OpenClaim := { program := "ytaamfgpdfakakaa", sum := "7ae4822709fcf8bbac55e308c539fff2ae749e1b3bcde0fc1528ea16f3a11b62", func := "loop.example/g00915/laws.FnIntervalSums", spec := "fnIntervalSums", apart := false }
def FnIntervalSumsSaid : Prop := fnIntervalSumsRow.holds Try.pinned (OpenSpec.ofChange fnIntervalSumsSpec)

/-- ITS FALSE NEIGHBOUR: 'it returns false'. Refute it at one input. -/
def fnIntervalSumsWrong : ChangeSpec := { name := "fnIntervalSums", fn := fun _ => fun
  | [d] => { results := [.lit (.bool false)], args := [d] }
  | _ => none }
def FnIntervalSumsWrongFalsely : Prop := fnIntervalSumsRow.holds Try.pinned (OpenSpec.ofChange fnIntervalSumsWrong)

/-- 'laws.FnProducts': WHATEVER THE INPUT: true; the input reads as it did. -/
def fnProductsSpec : ChangeSpec := { name := "fnProducts", fn := fun _ => fun
  | [d] => { results := [.lit (.bool true)], args := [d] }
  | _ => none }
def fnProductsRow : OpenClaim := { program := "ytaamfgpdfakakaa", sum := "7ae4822709fcf8bbac55e308c539fff2ae749e1b3bcde0fc1528ea16f3a11b62", func := "loop.example/g00915/laws.FnProducts", spec := "fnProducts", unfollowed := true, recurses := true, apart := false }
def FnProductsSaid : Prop := fnProductsRow.holds Try.pinned (OpenSpec.ofChange fnProductsSpec)

/-- ITS FALSE NEIGHBOUR: 'it returns false'. Refute it at one input. -/
def fnProductsWrong : ChangeSpec := { name := "fnProducts", fn := fun _ => fun
  | [d] => { results := [.lit (.bool false)], args := [d] }
  | _ => none }
def FnProductsWrongFalsely : Prop := fnProductsRow.holds Try.pinned (OpenSpec.ofChange fnProductsWrong)

/-- 'laws.FnScales': WHATEVER THE INPUT: true; the input reads as it did. -/
def fnScalesSpec : ChangeSpec := { name := "fnScales", fn := fun _ => fun
  | [d] => { results := [.lit (.bool true)], args := [d] }
  | _ => none }
def fnScalesRow : OpenClaim := { program := "ytaamfgpdfakakaa", sum := "7ae4822709fcf8bbac55e308c539fff2ae749e1b3bcde0fc1528ea16f3a11b62", func := "loop.example/g00915/laws.FnScales", spec := "fnScales", apart := false }
def FnScalesSaid : Prop := fnScalesRow.holds Try.pinned (OpenSpec.ofChange fnScalesSpec)

/-- ITS FALSE NEIGHBOUR: 'it returns false'. Refute it at one input. -/
def fnScalesWrong : ChangeSpec := { name := "fnScales", fn := fun _ => fun
  | [d] => { results := [.lit (.bool false)], args := [d] }
  | _ => none }
def FnScalesWrongFalsely : Prop := fnScalesRow.holds Try.pinned (OpenSpec.ofChange fnScalesWrong)

/-- 'laws.FnExactIsInterval': WHATEVER THE INPUT: true; the input reads as it did. -/
def fnExactIsIntervalSpec : ChangeSpec := { name := "fnExactIsInterval", fn := fun _ => fun
  | [d] => { results := [.lit (.bool true)], args := [d] }
  | _ => none }
def fnExactIsIntervalRow : OpenClaim := { program := "ytaamfgpdfakakaa", sum := "7ae4822709fcf8bbac55e308c539fff2ae749e1b3bcde0fc1528ea16f3a11b62", func := "loop.example/g00915/laws.FnExactIsInterval", spec := "fnExactIsInterval", apart := false }
def FnExactIsIntervalSaid : Prop := fnExactIsIntervalRow.holds Try.pinned (OpenSpec.ofChange fnExactIsIntervalSpec)

/-- ITS FALSE NEIGHBOUR: 'it returns false'. Refute it at one input. -/
def fnExactIsIntervalWrong : ChangeSpec := { name := "fnExactIsInterval", fn := fun _ => fun
  | [d] => { results := [.lit (.bool false)], args := [d] }
  | _ => none }
def FnExactIsIntervalWrongFalsely : Prop := fnExactIsIntervalRow.holds Try.pinned (OpenSpec.ofChange fnExactIsIntervalWrong)

/-- 'laws.FnExactSumIntervals': WHATEVER THE INPUT: true; the input reads as it did. -/
def fnExactSumIntervalsSpec : ChangeSpec := { name := "fnExactSumIntervals", fn := fun _ => fun
  | [d] => { results := [.lit (.bool true)], args := [d] }
  | _ => none }
def fnExactSumIntervalsRow : OpenClaim := { program := "ytaamfgpdfakakaa", sum := "7ae4822709fcf8bbac55e308c539fff2ae749e1b3bcde0fc1528ea16f3a11b62", func := "loop.example/g00915/laws.FnExactSumIntervals", spec := "fnExactSumIntervals", apart := false }
def FnExactSumIntervalsSaid : Prop := fnExactSumIntervalsRow.holds Try.pinned (OpenSpec.ofChange fnExactSumIntervalsSpec)

/-- ITS FALSE NEIGHBOUR: 'it returns false'. Refute it at one input. -/
def fnExactSumIntervalsWrong : ChangeSpec := { name := "fnExactSumIntervals", fn := fun _ => fun
  | [d] => { results := [.lit (.bool false)], args := [d] }
  | _ => none }
def FnExactSumIntervalsWrongFalsely : Prop := fnExactSumIntervalsRow.holds Try.pinned (OpenSpec.ofChange fnExactSumIntervalsWrong)

/-- 'laws.FnExactProductInterval': WHATEVER THE INPUT: true; the input reads as it did. -/
def fnExactProductIntervalSpec : ChangeSpec := { name := "fnExactProductInterval", fn := fun _ => fun
  | [d1, d2] => { results := [.lit (.bool true)], args := [d1, d2] }
  | _ => none }
def fnExactProductIntervalRow : OpenClaim := { program := "ytaamfgpdfakakaa", sum := "7ae4822709fcf8bbac55e308c539fff2ae749e1b3bcde0fc1528ea16f3a11b62", func := "loop.example/g00915/laws.FnExactProductInterval", spec := "fnExactProductInterval", unfollowed := true, recurses := true, apart := false }
def FnExactProductIntervalSaid : Prop := fnExactProductIntervalRow.holds Try.pinned (OpenSpec.ofChange fnExactProductIntervalSpec)

/-- ITS FALSE NEIGHBOUR: 'it returns false'. Refute it at one input. -/
def fnExactProductIntervalWrong : ChangeSpec := { name := "fnExactProductInterval", fn := fun _ => fun
  | [d1, d2] => { results := [.lit (.bool false)], args := [d1, d2] }
  | _ => none }
def FnExactProductIntervalWrongFalsely : Prop := fnExactProductIntervalRow.holds Try.pinned (OpenSpec.ofChange fnExactProductIntervalWrong)

/-- 'laws.FnExactQuotientInterval': WHATEVER THE INPUT: true; the input reads as it did. -/
def fnExactQuotientIntervalSpec : ChangeSpec := { name := "fnExactQuotientInterval", fn := fun _ => fun
  | [d1, d2] => { results := [.lit (.bool true)], args := [d1, d2] }
  | _ => none }
def fnExactQuotientIntervalRow : OpenClaim := { program := "ytaamfgpdfakakaa", sum := "7ae4822709fcf8bbac55e308c539fff2ae749e1b3bcde0fc1528ea16f3a11b62", func := "loop.example/g00915/laws.FnExactQuotientInterval", spec := "fnExactQuotientInterval", unfollowed := true, recurses := true, apart := false }
def FnExactQuotientIntervalSaid : Prop := fnExactQuotientIntervalRow.holds Try.pinned (OpenSpec.ofChange fnExactQuotientIntervalSpec)

/-- ITS FALSE NEIGHBOUR: 'it returns false'. Refute it at one input. -/
def fnExactQuotientIntervalWrong : ChangeSpec := { name := "fnExactQuotientInterval", fn := fun _ => fun
  | [d1, d2] => { results := [.lit (.bool false)], args := [d1, d2] }
  | _ => none }
def FnExactQuotientIntervalWrongFalsely : Prop := fnExactQuotientIntervalRow.holds Try.pinned (OpenSpec.ofChange fnExactQuotientIntervalWrong)

/-- 'laws.FnExactScaledInterval': WHATEVER THE INPUT: true; the input reads as it did. -/
def fnExactScaledIntervalSpec : ChangeSpec := { name := "fnExactScaledInterval", fn := fun _ => fun
  | [d1, d2, d3] => { results := [.lit (.bool true)], args := [d1, d2, d3] }
  | _ => none }
def fnExactScaledIntervalRow : OpenClaim := { program := "ytaamfgpdfakakaa", sum := "7ae4822709fcf8bbac55e308c539fff2ae749e1b3bcde0fc1528ea16f3a11b62", func := "loop.example/g00915/laws.FnExactScaledInterval", spec := "fnExactScaledInterval", apart := false }
def FnExactScaledIntervalSaid : Prop := fnExactScaledIntervalRow.holds Try.pinned (OpenSpec.ofChange fnExactScaledIntervalSpec)

/-- ITS FALSE NEIGHBOUR: 'it returns false'. Refute it at one input. -/
def fnExactScaledIntervalWrong : ChangeSpec := { name := "fnExactScaledInterval", fn := fun _ => fun
  | [d1, d2, d3] => { results := [.lit (.bool false)], args := [d1, d2, d3] }
  | _ => none }
def FnExactScaledIntervalWrongFalsely : Prop := fnExactScaledIntervalRow.holds Try.pinned (OpenSpec.ofChange fnExactScaledIntervalWrong)

/-- 'laws.FnExactEncloseAll': WHATEVER THE INPUT: true; the input reads as it did. -/
def fnExactEncloseAllSpec : ChangeSpec := { name := "fnExactEncloseAll", fn := fun _ => fun
  | [d] => { results := [.lit (.bool true)], args := [d] }
  | _ => none }
def fnExactEncloseAllRow : OpenClaim := { program := "ytaamfgpdfakakaa", sum := "7ae4822709fcf8bbac55e308c539fff2ae749e1b3bcde0fc1528ea16f3a11b62", func := "loop.example/g00915/laws.FnExactEncloseAll", spec := "fnExactEncloseAll", apart := false }
def FnExactEncloseAllSaid : Prop := fnExactEncloseAllRow.holds Try.pinned (OpenSpec.ofChange fnExactEncloseAllSpec)

/-- ITS FALSE NEIGHBOUR: 'it returns false'. Refute it at one input. -/
def fnExactEncloseAllWrong : ChangeSpec := { name := "fnExactEncloseAll", fn := fun _ => fun
  | [d] => { results := [.lit (.bool false)], args := [d] }
  | _ => none }
def FnExactEncloseAllWrongFalsely : Prop := fnExactEncloseAllRow.holds Try.pinned (OpenSpec.ofChange fnExactEncloseAllWrong)

/-- 'laws.FnExactMeetInterval': WHATEVER THE INPUT: true; the input reads as it did. -/
def fnExactMeetIntervalSpec : ChangeSpec := { name := "fnExactMeetInterval", fn := fun _ => fun
  | [d1, d2] => { results := [.lit (.bool true)], args := [d1, d2] }
  | _ => none }
def fnExactMeetIntervalRow : OpenClaim := { program := "ytaamfgpdfakakaa", sum := "7ae4822709fcf8bbac55e308c539fff2ae749e1b3bcde0fc1528ea16f3a11b62", func := "loop.example/g00915/laws.FnExactMeetInterval", spec := "fnExactMeetInterval", apart := false }
def FnExactMeetIntervalSaid : Prop := fnExactMeetIntervalRow.holds Try.pinned (OpenSpec.ofChange fnExactMeetIntervalSpec)

/-- ITS FALSE NEIGHBOUR: 'it returns false'. Refute it at one input. -/
def fnExactMeetIntervalWrong : ChangeSpec := { name := "fnExactMeetInterval", fn := fun _ => fun
  | [d1, d2] => { results := [.lit (.bool false)], args := [d1, d2] }
  | _ => none }
def FnExactMeetIntervalWrongFalsely : Prop := fnExactMeetIntervalRow.holds Try.pinned (OpenSpec.ofChange fnExactMeetIntervalWrong)

/-- 'laws.FnExactHasNumber': WHATEVER THE INPUT: true; the input reads as it did. -/
def fnExactHasNumberSpec : ChangeSpec := { name := "fnExactHasNumber", fn := fun _ => fun
  | [d1, d2] => { results := [.lit (.bool true)], args := [d1, d2] }
  | _ => none }
def fnExactHasNumberRow : OpenClaim := { program := "ytaamfgpdfakakaa", sum := "7ae4822709fcf8bbac55e308c539fff2ae749e1b3bcde0fc1528ea16f3a11b62", func := "loop.example/g00915/laws.FnExactHasNumber", spec := "fnExactHasNumber", apart := false }
def FnExactHasNumberSaid : Prop := fnExactHasNumberRow.holds Try.pinned (OpenSpec.ofChange fnExactHasNumberSpec)

/-- ITS FALSE NEIGHBOUR: 'it returns false'. Refute it at one input. -/
def fnExactHasNumberWrong : ChangeSpec := { name := "fnExactHasNumber", fn := fun _ => fun
  | [d1, d2] => { results := [.lit (.bool false)], args := [d1, d2] }
  | _ => none }
def FnExactHasNumberWrongFalsely : Prop := fnExactHasNumberRow.holds Try.pinned (OpenSpec.ofChange fnExactHasNumberWrong)

/- THE SECOND FORM. 'bulk': how many values and letters a reading holds, each counted each time it is reached (what is shared counts as often as it is met; a slice's spare places count too). A statement '..UptoSaid' is the law's where the arguments, and the package variables that the reading takes, are together of bulk at most 1048576: NARROWER than '..Said'. Prove '..Said' where nothing that the law and all that it calls make is longer than what came in: it says more and counts as full. Else prove '..UptoSaid'. A law counts once. -/
mutual
def uptoBulk {H : Type} : DataW H → Nat
  | .lit (.string bytes) => bytes.length + 1
  | .lit _ => 1
  | .nil => 1
  | .ptr d => uptoBulk d + 1
  | .slice elems spare => uptoBulkAll elems + uptoBulkAll spare + 1
  | .agg parts => uptoBulkAll parts + 1
  | .iface _ d => uptoBulk d + 1
  | .map entries => uptoBulkEntries entries + 1
  | .held _ => 1
def uptoBulkAll {H : Type} : List (DataW H) → Nat
  | [] => 0
  | d :: r => uptoBulk d + uptoBulkAll r
def uptoBulkEntries {H : Type} : List (Lit × DataW H) → Nat
  | [] => 0
  | x :: r => uptoBulkEntry x + uptoBulkEntries r
def uptoBulkEntry {H : Type} : Lit × DataW H → Nat
  | (.string bytes, d) => bytes.length + uptoBulk d + 1
  | (_, d) => uptoBulk d + 1
 end
def uptoSmall : (H : Type) → List (DataW H) → Bool := fun _ ds => decide (uptoBulkAll ds ≤ 1048576)
def OpenSpec.upto (s : _root_.Go.ChangeSpec) : _root_.Go.OpenSpec := { _root_.Go.OpenSpec.ofChange s with cond := some uptoSmall }

/-- 'laws.FnQuotients', WHERE WHAT IT READS IS OF BULK AT MOST 1048576: true; the input reads as it did. -/
def fnQuotientsUptoRow : OpenClaim := { program := "ytaamfgpdfakakaa", sum := "7ae4822709fcf8bbac55e308c539fff2ae749e1b3bcde0fc1528ea16f3a11b62", func := "loop.example/g00915/laws.FnQuotients", spec := "fnQuotients", apart := false, narrowed := true }
def FnQuotientsUptoSaid : Prop := fnQuotientsUptoRow.holds Try.pinned (OpenSpec.upto fnQuotientsSpec)

/-- 'laws.FnMedians', WHERE WHAT IT READS IS OF BULK AT MOST 1048576: true; the input reads as it did. -/
def fnMediansUptoRow : OpenClaim := { program := "ytaamfgpdfakakaa", sum := "7ae4822709fcf8bbac55e308c539fff2ae749e1b3bcde0fc1528ea16f3a11b62", func := "loop.example/g00915/laws.FnMedians", spec := "fnMedians", recurses := true, apart := false, narrowed := true }
def FnMediansUptoSaid : Prop := fnMediansUptoRow.holds Try.pinned (OpenSpec.upto fnMediansSpec)

/-- 'laws.FnExactQuotientBounds', WHERE WHAT IT READS IS OF BULK AT MOST 1048576: true; the input reads as it did. -/
def fnExactQuotientBoundsUptoRow : OpenClaim := { program := "ytaamfgpdfakakaa", sum := "7ae4822709fcf8bbac55e308c539fff2ae749e1b3bcde0fc1528ea16f3a11b62", func := "loop.example/g00915/laws.FnExactQuotientBounds", spec := "fnExactQuotientBounds", apart := false, narrowed := true }
def FnExactQuotientBoundsUptoSaid : Prop := fnExactQuotientBoundsUptoRow.holds Try.pinned (OpenSpec.upto fnExactQuotientBoundsSpec)

/-- 'laws.FnExactMedianOf', WHERE WHAT IT READS IS OF BULK AT MOST 1048576: true; the input reads as it did. -/
def fnExactMedianOfUptoRow : OpenClaim := { program := "ytaamfgpdfakakaa", sum := "7ae4822709fcf8bbac55e308c539fff2ae749e1b3bcde0fc1528ea16f3a11b62", func := "loop.example/g00915/laws.FnExactMedianOf", spec := "fnExactMedianOf", recurses := true, apart := false, narrowed := true }
def FnExactMedianOfUptoSaid : Prop := fnExactMedianOfUptoRow.holds Try.pinned (OpenSpec.upto fnExactMedianOfSpec)

/-- 'laws.FnIntervalSums', WHERE WHAT IT READS IS OF BULK AT MOST 1048576: true; the input reads as it did. -/
def fnIntervalSumsUptoRow : OpenClaim := { program := "ytaamfgpdfakakaa", sum := "7ae4822709fcf8bbac55e308c539fff2ae749e1b3bcde0fc1528ea16f3a11b62", func := "loop.example/g00915/laws.FnIntervalSums", spec := "fnIntervalSums", apart := false, narrowed := true }
def FnIntervalSumsUptoSaid : Prop := fnIntervalSumsUptoRow.holds Try.pinned (OpenSpec.upto fnIntervalSumsSpec)

/-- 'laws.FnProducts', WHERE WHAT IT READS IS OF BULK AT MOST 1048576: true; the input reads as it did. -/
def fnProductsUptoRow : OpenClaim := { program := "ytaamfgpdfakakaa", sum := "7ae4822709fcf8bbac55e308c539fff2ae749e1b3bcde0fc1528ea16f3a11b62", func := "loop.example/g00915/laws.FnProducts", spec := "fnProducts", unfollowed := true, recurses := true, apart := false, narrowed := true }
def FnProductsUptoSaid : Prop := fnProductsUptoRow.holds Try.pinned (OpenSpec.upto fnProductsSpec)

/-- 'laws.FnScales', WHERE WHAT IT READS IS OF BULK AT MOST 1048576: true; the input reads as it did. -/
def fnScalesUptoRow : OpenClaim := { program := "ytaamfgpdfakakaa", sum := "7ae4822709fcf8bbac55e308c539fff2ae749e1b3bcde0fc1528ea16f3a11b62", func := "loop.example/g00915/laws.FnScales", spec := "fnScales", apart := false, narrowed := true }
def FnScalesUptoSaid : Prop := fnScalesUptoRow.holds Try.pinned (OpenSpec.upto fnScalesSpec)

/-- 'laws.FnExactIsInterval', WHERE WHAT IT READS IS OF BULK AT MOST 1048576: true; the input reads as it did. -/
def fnExactIsIntervalUptoRow : OpenClaim := { program := "ytaamfgpdfakakaa", sum := "7ae4822709fcf8bbac55e308c539fff2ae749e1b3bcde0fc1528ea16f3a11b62", func := "loop.example/g00915/laws.FnExactIsInterval", spec := "fnExactIsInterval", apart := false, narrowed := true }
def FnExactIsIntervalUptoSaid : Prop := fnExactIsIntervalUptoRow.holds Try.pinned (OpenSpec.upto fnExactIsIntervalSpec)

/-- 'laws.FnExactSumIntervals', WHERE WHAT IT READS IS OF BULK AT MOST 1048576: true; the input reads as it did. -/
def fnExactSumIntervalsUptoRow : OpenClaim := { program := "ytaamfgpdfakakaa", sum := "7ae4822709fcf8bbac55e308c539fff2ae749e1b3bcde0fc1528ea16f3a11b62", func := "loop.example/g00915/laws.FnExactSumIntervals", spec := "fnExactSumIntervals", apart := false, narrowed := true }
def FnExactSumIntervalsUptoSaid : Prop := fnExactSumIntervalsUptoRow.holds Try.pinned (OpenSpec.upto fnExactSumIntervalsSpec)

/-- 'laws.FnExactProductInterval', WHERE WHAT IT READS IS OF BULK AT MOST 1048576: true; the input reads as it did. -/
def fnExactProductIntervalUptoRow : OpenClaim := { program := "ytaamfgpdfakakaa", sum := "7ae4822709fcf8bbac55e308c539fff2ae749e1b3bcde0fc1528ea16f3a11b62", func := "loop.example/g00915/laws.FnExactProductInterval", spec := "fnExactProductInterval", unfollowed := true, recurses := true, apart := false, narrowed := true }
def FnExactProductIntervalUptoSaid : Prop := fnExactProductIntervalUptoRow.holds Try.pinned (OpenSpec.upto fnExactProductIntervalSpec)

/-- 'laws.FnExactQuotientInterval', WHERE WHAT IT READS IS OF BULK AT MOST 1048576: true; the input reads as it did. -/
def fnExactQuotientIntervalUptoRow : OpenClaim := { program := "ytaamfgpdfakakaa", sum := "7ae4822709fcf8bbac55e308c539fff2ae749e1b3bcde0fc1528ea16f3a11b62", func := "loop.example/g00915/laws.FnExactQuotientInterval", spec := "fnExactQuotientInterval", unfollowed := true, recurses := true, apart := false, narrowed := true }
def FnExactQuotientIntervalUptoSaid : Prop := fnExactQuotientIntervalUptoRow.holds Try.pinned (OpenSpec.upto fnExactQuotientIntervalSpec)

/-- 'laws.FnExactScaledInterval', WHERE WHAT IT READS IS OF BULK AT MOST 1048576: true; the input reads as it did. -/
def fnExactScaledIntervalUptoRow : OpenClaim := { program := "ytaamfgpdfakakaa", sum := "7ae4822709fcf8bbac55e308c539fff2ae749e1b3bcde0fc1528ea16f3a11b62", func := "loop.example/g00915/laws.FnExactScaledInterval", spec := "fnExactScaledInterval", apart := false, narrowed := true }
def FnExactScaledIntervalUptoSaid : Prop := fnExactScaledIntervalUptoRow.holds Try.pinned (OpenSpec.upto fnExactScaledIntervalSpec)

/-- 'laws.FnExactEncloseAll', WHERE WHAT IT READS IS OF BULK AT MOST 1048576: true; the input reads as it did. -/
def fnExactEncloseAllUptoRow : OpenClaim := { program := "ytaamfgpdfakakaa", sum := "7ae4822709fcf8bbac55e308c539fff2ae749e1b3bcde0fc1528ea16f3a11b62", func := "loop.example/g00915/laws.FnExactEncloseAll", spec := "fnExactEncloseAll", apart := false, narrowed := true }
def FnExactEncloseAllUptoSaid : Prop := fnExactEncloseAllUptoRow.holds Try.pinned (OpenSpec.upto fnExactEncloseAllSpec)

/-- 'laws.FnExactMeetInterval', WHERE WHAT IT READS IS OF BULK AT MOST 1048576: true; the input reads as it did. -/
def fnExactMeetIntervalUptoRow : OpenClaim := { program := "ytaamfgpdfakakaa", sum := "7ae4822709fcf8bbac55e308c539fff2ae749e1b3bcde0fc1528ea16f3a11b62", func := "loop.example/g00915/laws.FnExactMeetInterval", spec := "fnExactMeetInterval", apart := false, narrowed := true }
def FnExactMeetIntervalUptoSaid : Prop := fnExactMeetIntervalUptoRow.holds Try.pinned (OpenSpec.upto fnExactMeetIntervalSpec)

/-- 'laws.FnExactHasNumber', WHERE WHAT IT READS IS OF BULK AT MOST 1048576: true; the input reads as it did. -/
def fnExactHasNumberUptoRow : OpenClaim := { program := "ytaamfgpdfakakaa", sum := "7ae4822709fcf8bbac55e308c539fff2ae749e1b3bcde0fc1528ea16f3a11b62", func := "loop.example/g00915/laws.FnExactHasNumber", spec := "fnExactHasNumber", apart := false, narrowed := true }
def FnExactHasNumberUptoSaid : Prop := fnExactHasNumberUptoRow.holds Try.pinned (OpenSpec.upto fnExactHasNumberSpec)

end Rows
end Go.Proofs.Ytaamfgpdfakakaa
