/-
  No cell of these rows narrows 'for every input' (looked for: loops, veiled, ifaces, maps, wideKeys, modest, calm, conditions, laid).
  DERIVED. THE GIVEN ROWS OF THIS SEAT. 14 by the template 'for every input the law returns true; each argument reads behind the call as it read before'; 0 by the template 'total and deterministic' (their statements: YtkbgbhbnkffneaaTotals.lean).
  GIVEN WITH THE SEED: the statements are not yours to turn. If you find one false, say at which input.
  Laid BY PROGRAM, IN A SANDBOX (cutbox-rows.mjs): the forced cells as the released guide's own fill.sh prints them over the translation a1b154b24f513cc3… (all of the seat's roots in one cut). By AI agents, Wed Nov 11 2026. No macro, syntax, notation, axiom, sorry.
-/
import Derived.Test.YtkbgbhbnkffneaaChecked
import GoSem.Claim
import GoSem.ClaimJoined
import GoSem.ClaimMapViews
import Derived.JoinedTies
import Derived.KernelRfl
namespace Go.Proofs.Ytkbgbhbnkffneaa
/- THE CELL 'sum', in the pinned program and in every row, IS THE sha256 OF THE DUMP (.gsa) THAT YtkbgbhbnkffneaaProg.lean LOADS. Nothing in Lean hashes anything: it is a label: what it is worth is what the hold of that sum in a sandbox is worth. -/
noncomputable def Try.pinned : Pinned := { name := "ytkbgbhbnkffneaa", sum := "a1b154b24f513cc32179dfc07f42ca1c34e140ce375957091c03c55c6fcdd019", checked := Try.checked }
namespace Rows
def none {H : Type} : Left H := { results := [], args := [] }

/-- 'laws.FnDivisors': WHATEVER THE INPUT: true; the input reads as it did. -/
def fnDivisorsSpec : ChangeSpec := { name := "fnDivisors", fn := fun _ => fun
  | [d] => { results := [.lit (.bool true)], args := [d] }
  | _ => none }
def fnDivisorsRow : OpenClaim := { program := "ytkbgbhbnkffneaa", sum := "a1b154b24f513cc32179dfc07f42ca1c34e140ce375957091c03c55c6fcdd019", func := "loop.example/g00915/laws.FnDivisors", spec := "fnDivisors", apart := false }
def FnDivisorsSaid : Prop := fnDivisorsRow.holds Try.pinned (OpenSpec.ofChange fnDivisorsSpec)

/-- ITS FALSE NEIGHBOUR: 'it returns false'. Refute it at one input. -/
def fnDivisorsWrong : ChangeSpec := { name := "fnDivisors", fn := fun _ => fun
  | [d] => { results := [.lit (.bool false)], args := [d] }
  | _ => none }
def FnDivisorsWrongFalsely : Prop := fnDivisorsRow.holds Try.pinned (OpenSpec.ofChange fnDivisorsWrong)

/-- 'laws.FnExactCommonDivisor': WHATEVER THE INPUT: true; the input reads as it did. -/
def fnExactCommonDivisorSpec : ChangeSpec := { name := "fnExactCommonDivisor", fn := fun _ => fun
  | [d1, d2] => { results := [.lit (.bool true)], args := [d1, d2] }
  | _ => none }
def fnExactCommonDivisorRow : OpenClaim := { program := "ytkbgbhbnkffneaa", sum := "a1b154b24f513cc32179dfc07f42ca1c34e140ce375957091c03c55c6fcdd019", func := "loop.example/g00915/laws.FnExactCommonDivisor", spec := "fnExactCommonDivisor", apart := false }
def FnExactCommonDivisorSaid : Prop := fnExactCommonDivisorRow.holds Try.pinned (OpenSpec.ofChange fnExactCommonDivisorSpec)

/-- ITS FALSE NEIGHBOUR: 'it returns false'. Refute it at one input. -/
def fnExactCommonDivisorWrong : ChangeSpec := { name := "fnExactCommonDivisor", fn := fun _ => fun
  | [d1, d2] => { results := [.lit (.bool false)], args := [d1, d2] }
  | _ => none }
def FnExactCommonDivisorWrongFalsely : Prop := fnExactCommonDivisorRow.holds Try.pinned (OpenSpec.ofChange fnExactCommonDivisorWrong)

/-- 'laws.FnIntervalSets': WHATEVER THE INPUT: true; the input reads as it did. -/
def fnIntervalSetsSpec : ChangeSpec := { name := "fnIntervalSets", fn := fun _ => fun
  | [d] => { results := [.lit (.bool true)], args := [d] }
  | _ => none }
def fnIntervalSetsRow : OpenClaim := { program := "ytkbgbhbnkffneaa", sum := "a1b154b24f513cc32179dfc07f42ca1c34e140ce375957091c03c55c6fcdd019", func := "loop.example/g00915/laws.FnIntervalSets", spec := "fnIntervalSets", apart := false }
def FnIntervalSetsSaid : Prop := fnIntervalSetsRow.holds Try.pinned (OpenSpec.ofChange fnIntervalSetsSpec)

/-- ITS FALSE NEIGHBOUR: 'it returns false'. Refute it at one input. -/
def fnIntervalSetsWrong : ChangeSpec := { name := "fnIntervalSets", fn := fun _ => fun
  | [d] => { results := [.lit (.bool false)], args := [d] }
  | _ => none }
def FnIntervalSetsWrongFalsely : Prop := fnIntervalSetsRow.holds Try.pinned (OpenSpec.ofChange fnIntervalSetsWrong)

/-- 'laws.FnRatios': WHATEVER THE INPUT: true; the input reads as it did. -/
def fnRatiosSpec : ChangeSpec := { name := "fnRatios", fn := fun _ => fun
  | [d] => { results := [.lit (.bool true)], args := [d] }
  | _ => none }
def fnRatiosRow : OpenClaim := { program := "ytkbgbhbnkffneaa", sum := "a1b154b24f513cc32179dfc07f42ca1c34e140ce375957091c03c55c6fcdd019", func := "loop.example/g00915/laws.FnRatios", spec := "fnRatios", apart := false }
def FnRatiosSaid : Prop := fnRatiosRow.holds Try.pinned (OpenSpec.ofChange fnRatiosSpec)

/-- ITS FALSE NEIGHBOUR: 'it returns false'. Refute it at one input. -/
def fnRatiosWrong : ChangeSpec := { name := "fnRatios", fn := fun _ => fun
  | [d] => { results := [.lit (.bool false)], args := [d] }
  | _ => none }
def FnRatiosWrongFalsely : Prop := fnRatiosRow.holds Try.pinned (OpenSpec.ofChange fnRatiosWrong)

/-- 'laws.FnRatioSums': WHATEVER THE INPUT: true; the input reads as it did. -/
def fnRatioSumsSpec : ChangeSpec := { name := "fnRatioSums", fn := fun _ => fun
  | [d] => { results := [.lit (.bool true)], args := [d] }
  | _ => none }
def fnRatioSumsRow : OpenClaim := { program := "ytkbgbhbnkffneaa", sum := "a1b154b24f513cc32179dfc07f42ca1c34e140ce375957091c03c55c6fcdd019", func := "loop.example/g00915/laws.FnRatioSums", spec := "fnRatioSums", apart := false }
def FnRatioSumsSaid : Prop := fnRatioSumsRow.holds Try.pinned (OpenSpec.ofChange fnRatioSumsSpec)

/-- ITS FALSE NEIGHBOUR: 'it returns false'. Refute it at one input. -/
def fnRatioSumsWrong : ChangeSpec := { name := "fnRatioSums", fn := fun _ => fun
  | [d] => { results := [.lit (.bool false)], args := [d] }
  | _ => none }
def FnRatioSumsWrongFalsely : Prop := fnRatioSumsRow.holds Try.pinned (OpenSpec.ofChange fnRatioSumsWrong)

/-- 'laws.FnMediants': WHATEVER THE INPUT: true; the input reads as it did. -/
def fnMediantsSpec : ChangeSpec := { name := "fnMediants", fn := fun _ => fun
  | [d] => { results := [.lit (.bool true)], args := [d] }
  | _ => none }
def fnMediantsRow : OpenClaim := { program := "ytkbgbhbnkffneaa", sum := "a1b154b24f513cc32179dfc07f42ca1c34e140ce375957091c03c55c6fcdd019", func := "loop.example/g00915/laws.FnMediants", spec := "fnMediants", apart := false }
def FnMediantsSaid : Prop := fnMediantsRow.holds Try.pinned (OpenSpec.ofChange fnMediantsSpec)

/-- ITS FALSE NEIGHBOUR: 'it returns false'. Refute it at one input. -/
def fnMediantsWrong : ChangeSpec := { name := "fnMediants", fn := fun _ => fun
  | [d] => { results := [.lit (.bool false)], args := [d] }
  | _ => none }
def FnMediantsWrongFalsely : Prop := fnMediantsRow.holds Try.pinned (OpenSpec.ofChange fnMediantsWrong)

/-- 'laws.FnExactIsRatio': WHATEVER THE INPUT: true; the input reads as it did. -/
def fnExactIsRatioSpec : ChangeSpec := { name := "fnExactIsRatio", fn := fun _ => fun
  | [d] => { results := [.lit (.bool true)], args := [d] }
  | _ => none }
def fnExactIsRatioRow : OpenClaim := { program := "ytkbgbhbnkffneaa", sum := "a1b154b24f513cc32179dfc07f42ca1c34e140ce375957091c03c55c6fcdd019", func := "loop.example/g00915/laws.FnExactIsRatio", spec := "fnExactIsRatio", apart := false }
def FnExactIsRatioSaid : Prop := fnExactIsRatioRow.holds Try.pinned (OpenSpec.ofChange fnExactIsRatioSpec)

/-- ITS FALSE NEIGHBOUR: 'it returns false'. Refute it at one input. -/
def fnExactIsRatioWrong : ChangeSpec := { name := "fnExactIsRatio", fn := fun _ => fun
  | [d] => { results := [.lit (.bool false)], args := [d] }
  | _ => none }
def FnExactIsRatioWrongFalsely : Prop := fnExactIsRatioRow.holds Try.pinned (OpenSpec.ofChange fnExactIsRatioWrong)

/-- 'laws.FnExactMakeRatio': WHATEVER THE INPUT: true; the input reads as it did. -/
def fnExactMakeRatioSpec : ChangeSpec := { name := "fnExactMakeRatio", fn := fun _ => fun
  | [d1, d2] => { results := [.lit (.bool true)], args := [d1, d2] }
  | _ => none }
def fnExactMakeRatioRow : OpenClaim := { program := "ytkbgbhbnkffneaa", sum := "a1b154b24f513cc32179dfc07f42ca1c34e140ce375957091c03c55c6fcdd019", func := "loop.example/g00915/laws.FnExactMakeRatio", spec := "fnExactMakeRatio", apart := false }
def FnExactMakeRatioSaid : Prop := fnExactMakeRatioRow.holds Try.pinned (OpenSpec.ofChange fnExactMakeRatioSpec)

/-- ITS FALSE NEIGHBOUR: 'it returns false'. Refute it at one input. -/
def fnExactMakeRatioWrong : ChangeSpec := { name := "fnExactMakeRatio", fn := fun _ => fun
  | [d1, d2] => { results := [.lit (.bool false)], args := [d1, d2] }
  | _ => none }
def FnExactMakeRatioWrongFalsely : Prop := fnExactMakeRatioRow.holds Try.pinned (OpenSpec.ofChange fnExactMakeRatioWrong)

/-- 'laws.FnExactAddRatios': WHATEVER THE INPUT: true; the input reads as it did. -/
def fnExactAddRatiosSpec : ChangeSpec := { name := "fnExactAddRatios", fn := fun _ => fun
  | [d1, d2] => { results := [.lit (.bool true)], args := [d1, d2] }
  | _ => none }
def fnExactAddRatiosRow : OpenClaim := { program := "ytkbgbhbnkffneaa", sum := "a1b154b24f513cc32179dfc07f42ca1c34e140ce375957091c03c55c6fcdd019", func := "loop.example/g00915/laws.FnExactAddRatios", spec := "fnExactAddRatios", apart := false }
def FnExactAddRatiosSaid : Prop := fnExactAddRatiosRow.holds Try.pinned (OpenSpec.ofChange fnExactAddRatiosSpec)

/-- ITS FALSE NEIGHBOUR: 'it returns false'. Refute it at one input. -/
def fnExactAddRatiosWrong : ChangeSpec := { name := "fnExactAddRatios", fn := fun _ => fun
  | [d1, d2] => { results := [.lit (.bool false)], args := [d1, d2] }
  | _ => none }
def FnExactAddRatiosWrongFalsely : Prop := fnExactAddRatiosRow.holds Try.pinned (OpenSpec.ofChange fnExactAddRatiosWrong)

/-- 'laws.FnExactMultiplyRatios': WHATEVER THE INPUT: true; the input reads as it did. -/
def fnExactMultiplyRatiosSpec : ChangeSpec := { name := "fnExactMultiplyRatios", fn := fun _ => fun
  | [d1, d2] => { results := [.lit (.bool true)], args := [d1, d2] }
  | _ => none }
def fnExactMultiplyRatiosRow : OpenClaim := { program := "ytkbgbhbnkffneaa", sum := "a1b154b24f513cc32179dfc07f42ca1c34e140ce375957091c03c55c6fcdd019", func := "loop.example/g00915/laws.FnExactMultiplyRatios", spec := "fnExactMultiplyRatios", apart := false }
def FnExactMultiplyRatiosSaid : Prop := fnExactMultiplyRatiosRow.holds Try.pinned (OpenSpec.ofChange fnExactMultiplyRatiosSpec)

/-- ITS FALSE NEIGHBOUR: 'it returns false'. Refute it at one input. -/
def fnExactMultiplyRatiosWrong : ChangeSpec := { name := "fnExactMultiplyRatios", fn := fun _ => fun
  | [d1, d2] => { results := [.lit (.bool false)], args := [d1, d2] }
  | _ => none }
def FnExactMultiplyRatiosWrongFalsely : Prop := fnExactMultiplyRatiosRow.holds Try.pinned (OpenSpec.ofChange fnExactMultiplyRatiosWrong)

/-- 'laws.FnExactInvertRatio': WHATEVER THE INPUT: true; the input reads as it did. -/
def fnExactInvertRatioSpec : ChangeSpec := { name := "fnExactInvertRatio", fn := fun _ => fun
  | [d] => { results := [.lit (.bool true)], args := [d] }
  | _ => none }
def fnExactInvertRatioRow : OpenClaim := { program := "ytkbgbhbnkffneaa", sum := "a1b154b24f513cc32179dfc07f42ca1c34e140ce375957091c03c55c6fcdd019", func := "loop.example/g00915/laws.FnExactInvertRatio", spec := "fnExactInvertRatio", apart := false }
def FnExactInvertRatioSaid : Prop := fnExactInvertRatioRow.holds Try.pinned (OpenSpec.ofChange fnExactInvertRatioSpec)

/-- ITS FALSE NEIGHBOUR: 'it returns false'. Refute it at one input. -/
def fnExactInvertRatioWrong : ChangeSpec := { name := "fnExactInvertRatio", fn := fun _ => fun
  | [d] => { results := [.lit (.bool false)], args := [d] }
  | _ => none }
def FnExactInvertRatioWrongFalsely : Prop := fnExactInvertRatioRow.holds Try.pinned (OpenSpec.ofChange fnExactInvertRatioWrong)

/-- 'laws.FnExactCompareRatios': WHATEVER THE INPUT: true; the input reads as it did. -/
def fnExactCompareRatiosSpec : ChangeSpec := { name := "fnExactCompareRatios", fn := fun _ => fun
  | [d1, d2] => { results := [.lit (.bool true)], args := [d1, d2] }
  | _ => none }
def fnExactCompareRatiosRow : OpenClaim := { program := "ytkbgbhbnkffneaa", sum := "a1b154b24f513cc32179dfc07f42ca1c34e140ce375957091c03c55c6fcdd019", func := "loop.example/g00915/laws.FnExactCompareRatios", spec := "fnExactCompareRatios", apart := false }
def FnExactCompareRatiosSaid : Prop := fnExactCompareRatiosRow.holds Try.pinned (OpenSpec.ofChange fnExactCompareRatiosSpec)

/-- ITS FALSE NEIGHBOUR: 'it returns false'. Refute it at one input. -/
def fnExactCompareRatiosWrong : ChangeSpec := { name := "fnExactCompareRatios", fn := fun _ => fun
  | [d1, d2] => { results := [.lit (.bool false)], args := [d1, d2] }
  | _ => none }
def FnExactCompareRatiosWrongFalsely : Prop := fnExactCompareRatiosRow.holds Try.pinned (OpenSpec.ofChange fnExactCompareRatiosWrong)

/-- 'laws.FnExactMediantOf': WHATEVER THE INPUT: true; the input reads as it did. -/
def fnExactMediantOfSpec : ChangeSpec := { name := "fnExactMediantOf", fn := fun _ => fun
  | [d1, d2] => { results := [.lit (.bool true)], args := [d1, d2] }
  | _ => none }
def fnExactMediantOfRow : OpenClaim := { program := "ytkbgbhbnkffneaa", sum := "a1b154b24f513cc32179dfc07f42ca1c34e140ce375957091c03c55c6fcdd019", func := "loop.example/g00915/laws.FnExactMediantOf", spec := "fnExactMediantOf", apart := false }
def FnExactMediantOfSaid : Prop := fnExactMediantOfRow.holds Try.pinned (OpenSpec.ofChange fnExactMediantOfSpec)

/-- ITS FALSE NEIGHBOUR: 'it returns false'. Refute it at one input. -/
def fnExactMediantOfWrong : ChangeSpec := { name := "fnExactMediantOf", fn := fun _ => fun
  | [d1, d2] => { results := [.lit (.bool false)], args := [d1, d2] }
  | _ => none }
def FnExactMediantOfWrongFalsely : Prop := fnExactMediantOfRow.holds Try.pinned (OpenSpec.ofChange fnExactMediantOfWrong)

/-- 'laws.FnExactRatioBounds': WHATEVER THE INPUT: true; the input reads as it did. -/
def fnExactRatioBoundsSpec : ChangeSpec := { name := "fnExactRatioBounds", fn := fun _ => fun
  | [d1, d2] => { results := [.lit (.bool true)], args := [d1, d2] }
  | _ => none }
def fnExactRatioBoundsRow : OpenClaim := { program := "ytkbgbhbnkffneaa", sum := "a1b154b24f513cc32179dfc07f42ca1c34e140ce375957091c03c55c6fcdd019", func := "loop.example/g00915/laws.FnExactRatioBounds", spec := "fnExactRatioBounds", apart := false }
def FnExactRatioBoundsSaid : Prop := fnExactRatioBoundsRow.holds Try.pinned (OpenSpec.ofChange fnExactRatioBoundsSpec)

/-- ITS FALSE NEIGHBOUR: 'it returns false'. Refute it at one input. -/
def fnExactRatioBoundsWrong : ChangeSpec := { name := "fnExactRatioBounds", fn := fun _ => fun
  | [d1, d2] => { results := [.lit (.bool false)], args := [d1, d2] }
  | _ => none }
def FnExactRatioBoundsWrongFalsely : Prop := fnExactRatioBoundsRow.holds Try.pinned (OpenSpec.ofChange fnExactRatioBoundsWrong)

/- THE SECOND FORM. 'bulk': how many values and letters a reading holds, each counted each time it is reached (what is shared counts as often as it is met; a slice's spare places count too). A statement '..UptoSaid' is the law's where the arguments, and the package variables that the reading takes, are together of bulk at most 1048576: NARROWER than '..Said'. Prove '..Said' where nothing that the law and all that it calls make is longer than what came in: it says more and counts as full. Else prove '..UptoSaid'. A law counts once. -/
mutual
def uptoBulk {H : Type} : DataW H → Nat
  | .lit (.string bytes) => bytes.length + 1
  | .lit _ => 1
  | .nil => 1
  | .ptr d => uptoBulk d + 1
  | .slice elems spare => uptoBulkAll elems + uptoBulkAll spare + 1
  | .agg parts => uptoBulkAll parts + 1
  | .iface _ d => uptoBulk d + 1
  | .map entries => uptoBulkEntries entries + 1
  | .held _ => 1
def uptoBulkAll {H : Type} : List (DataW H) → Nat
  | [] => 0
  | d :: r => uptoBulk d + uptoBulkAll r
def uptoBulkEntries {H : Type} : List (Lit × DataW H) → Nat
  | [] => 0
  | x :: r => uptoBulkEntry x + uptoBulkEntries r
def uptoBulkEntry {H : Type} : Lit × DataW H → Nat
  | (.string bytes, d) => bytes.length + uptoBulk d + 1
  | (_, d) => uptoBulk d + 1
 end
def uptoSmall : (H : Type) → List (DataW H) → Bool := fun _ ds => decide (uptoBulkAll ds ≤ 1048576)
def OpenSpec.upto (s : _root_.Go.ChangeSpec) : _root_.Go.OpenSpec := { _root_.Go.OpenSpec.ofChange s with cond := some uptoSmall }

/-- 'laws.FnDivisors', WHERE WHAT IT READS IS OF BULK AT MOST 1048576: true; the input reads as it did. -/
def fnDivisorsUptoRow : OpenClaim := { program := "ytkbgbhbnkffneaa", sum := "a1b154b24f513cc32179dfc07f42ca1c34e140ce375957091c03c55c6fcdd019", func := "loop.example/g00915/laws.FnDivisors", spec := "fnDivisors", apart := false, narrowed := true }
def FnDivisorsUptoSaid : Prop := fnDivisorsUptoRow.holds Try.pinned (OpenSpec.upto fnDivisorsSpec)

/-- 'laws.FnExactCommonDivisor', WHERE WHAT IT READS IS OF BULK AT MOST 1048576: true; the input reads as it did. -/
def fnExactCommonDivisorUptoRow : OpenClaim := { program := "ytkbgbhbnkffneaa", sum := "a1b154b24f513cc32179dfc07f42ca1c34e140ce375957091c03c55c6fcdd019", func := "loop.example/g00915/laws.FnExactCommonDivisor", spec := "fnExactCommonDivisor", apart := false, narrowed := true }
def FnExactCommonDivisorUptoSaid : Prop := fnExactCommonDivisorUptoRow.holds Try.pinned (OpenSpec.upto fnExactCommonDivisorSpec)

/-- 'laws.FnIntervalSets', WHERE WHAT IT READS IS OF BULK AT MOST 1048576: true; the input reads as it did. -/
def fnIntervalSetsUptoRow : OpenClaim := { program := "ytkbgbhbnkffneaa", sum := "a1b154b24f513cc32179dfc07f42ca1c34e140ce375957091c03c55c6fcdd019", func := "loop.example/g00915/laws.FnIntervalSets", spec := "fnIntervalSets", apart := false, narrowed := true }
def FnIntervalSetsUptoSaid : Prop := fnIntervalSetsUptoRow.holds Try.pinned (OpenSpec.upto fnIntervalSetsSpec)

/-- 'laws.FnRatios', WHERE WHAT IT READS IS OF BULK AT MOST 1048576: true; the input reads as it did. -/
def fnRatiosUptoRow : OpenClaim := { program := "ytkbgbhbnkffneaa", sum := "a1b154b24f513cc32179dfc07f42ca1c34e140ce375957091c03c55c6fcdd019", func := "loop.example/g00915/laws.FnRatios", spec := "fnRatios", apart := false, narrowed := true }
def FnRatiosUptoSaid : Prop := fnRatiosUptoRow.holds Try.pinned (OpenSpec.upto fnRatiosSpec)

/-- 'laws.FnRatioSums', WHERE WHAT IT READS IS OF BULK AT MOST 1048576: true; the input reads as it did. -/
def fnRatioSumsUptoRow : OpenClaim := { program := "ytkbgbhbnkffneaa", sum := "a1b154b24f513cc32179dfc07f42ca1c34e140ce375957091c03c55c6fcdd019", func := "loop.example/g00915/laws.FnRatioSums", spec := "fnRatioSums", apart := false, narrowed := true }
def FnRatioSumsUptoSaid : Prop := fnRatioSumsUptoRow.holds Try.pinned (OpenSpec.upto fnRatioSumsSpec)

/-- 'laws.FnMediants', WHERE WHAT IT READS IS OF BULK AT MOST 1048576: true; the input reads as it did. -/
def fnMediantsUptoRow : OpenClaim := { program := "ytkbgbhbnkffneaa", sum := "a1b154b24f513cc32179dfc07f42ca1c34e140ce375957091c03c55c6fcdd019", func := "loop.example/g00915/laws.FnMediants", spec := "fnMediants", apart := false, narrowed := true }
def FnMediantsUptoSaid : Prop := fnMediantsUptoRow.holds Try.pinned (OpenSpec.upto fnMediantsSpec)

/-- 'laws.FnExactIsRatio', WHERE WHAT IT READS IS OF BULK AT MOST 1048576: true; the input reads as it did. -/
def fnExactIsRatioUptoRow : OpenClaim := { program := "ytkbgbhbnkffneaa", sum := "a1b154b24f513cc32179dfc07f42ca1c34e140ce375957091c03c55c6fcdd019", func := "loop.example/g00915/laws.FnExactIsRatio", spec := "fnExactIsRatio", apart := false, narrowed := true }
def FnExactIsRatioUptoSaid : Prop := fnExactIsRatioUptoRow.holds Try.pinned (OpenSpec.upto fnExactIsRatioSpec)

/-- 'laws.FnExactMakeRatio', WHERE WHAT IT READS IS OF BULK AT MOST 1048576: true; the input reads as it did. -/
def fnExactMakeRatioUptoRow : OpenClaim := { program := "ytkbgbhbnkffneaa", sum := "a1b154b24f513cc32179dfc07f42ca1c34e140ce375957091c03c55c6fcdd019", func := "loop.example/g00915/laws.FnExactMakeRatio", spec := "fnExactMakeRatio", apart := false, narrowed := true }
def FnExactMakeRatioUptoSaid : Prop := fnExactMakeRatioUptoRow.holds Try.pinned (OpenSpec.upto fnExactMakeRatioSpec)

/-- 'laws.FnExactAddRatios', WHERE WHAT IT READS IS OF BULK AT MOST 1048576: true; the input reads as it did. -/
def fnExactAddRatiosUptoRow : OpenClaim := { program := "ytkbgbhbnkffneaa", sum := "a1b154b24f513cc32179dfc07f42ca1c34e140ce375957091c03c55c6fcdd019", func := "loop.example/g00915/laws.FnExactAddRatios", spec := "fnExactAddRatios", apart := false, narrowed := true }
def FnExactAddRatiosUptoSaid : Prop := fnExactAddRatiosUptoRow.holds Try.pinned (OpenSpec.upto fnExactAddRatiosSpec)

/-- 'laws.FnExactMultiplyRatios', WHERE WHAT IT READS IS OF BULK AT MOST 1048576: true; the input reads as it did. -/
def fnExactMultiplyRatiosUptoRow : OpenClaim := { program := "ytkbgbhbnkffneaa", sum := "a1b154b24f513cc32179dfc07f42ca1c34e140ce375957091c03c55c6fcdd019", func := "loop.example/g00915/laws.FnExactMultiplyRatios", spec := "fnExactMultiplyRatios", apart := false, narrowed := true }
def FnExactMultiplyRatiosUptoSaid : Prop := fnExactMultiplyRatiosUptoRow.holds Try.pinned (OpenSpec.upto fnExactMultiplyRatiosSpec)

/-- 'laws.FnExactInvertRatio', WHERE WHAT IT READS IS OF BULK AT MOST 1048576: true; the input reads as it did. -/
def fnExactInvertRatioUptoRow : OpenClaim := { program := "ytkbgbhbnkffneaa", sum := "a1b154b24f513cc32179dfc07f42ca1c34e140ce375957091c03c55c6fcdd019", func := "loop.example/g00915/laws.FnExactInvertRatio", spec := "fnExactInvertRatio", apart := false, narrowed := true }
def FnExactInvertRatioUptoSaid : Prop := fnExactInvertRatioUptoRow.holds Try.pinned (OpenSpec.upto fnExactInvertRatioSpec)

/-- 'laws.FnExactCompareRatios', WHERE WHAT IT READS IS OF BULK AT MOST 1048576: true; the input reads as it did. -/
def fnExactCompareRatiosUptoRow : OpenClaim := { program := "ytkbgbhbnkffneaa", sum := "a1b154b24f513cc32179dfc07f42ca1c34e140ce375957091c03c55c6fcdd019", func := "loop.example/g00915/laws.FnExactCompareRatios", spec := "fnExactCompareRatios", apart := false, narrowed := true }
def FnExactCompareRatiosUptoSaid : Prop := fnExactCompareRatiosUptoRow.holds Try.pinned (OpenSpec.upto fnExactCompareRatiosSpec)

/-- 'laws.FnExactMediantOf', WHERE WHAT IT READS IS OF BULK AT MOST 1048576: true; the input reads as it did. -/
def fnExactMediantOfUptoRow : OpenClaim := { program := "ytkbgbhbnkffneaa", sum := "a1b154b24f513cc32179dfc07f42ca1c34e140ce375957091c03c55c6fcdd019", func := "loop.example/g00915/laws.FnExactMediantOf", spec := "fnExactMediantOf", apart := false, narrowed := true }
def FnExactMediantOfUptoSaid : Prop := fnExactMediantOfUptoRow.holds Try.pinned (OpenSpec.upto fnExactMediantOfSpec)

/-- 'laws.FnExactRatioBounds', WHERE WHAT IT READS IS OF BULK AT MOST 1048576: true; the input reads as it did. -/
def fnExactRatioBoundsUptoRow : OpenClaim := { program := "ytkbgbhbnkffneaa", sum := "a1b154b24f513cc32179dfc07f42ca1c34e140ce375957091c03c55c6fcdd019", func := "loop.example/g00915/laws.FnExactRatioBounds", spec := "fnExactRatioBounds", apart := false, narrowed := true }
def FnExactRatioBoundsUptoSaid : Prop := fnExactRatioBoundsUptoRow.holds Try.pinned (OpenSpec.upto fnExactRatioBoundsSpec)

end Rows
end Go.Proofs.Ytkbgbhbnkffneaa
