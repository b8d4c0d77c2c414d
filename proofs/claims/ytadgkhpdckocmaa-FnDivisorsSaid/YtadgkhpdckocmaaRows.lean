/-
  No cell of these rows narrows 'for every input' (looked for: loops, veiled, ifaces, maps, wideKeys, modest, calm, conditions, laid).
  DERIVED. THE GIVEN ROWS OF THIS SEAT. 9 by the template 'for every input the law returns true; each argument reads behind the call as it read before'; 0 by the template 'total and deterministic' (their statements: YtadgkhpdckocmaaTotals.lean).
  GIVEN WITH THE SEED: the statements are not yours to turn. If you find one false, say at which input.
  Laid BY PROGRAM, IN A SANDBOX (cutbox-rows.mjs): the forced cells as the released guide's own fill.sh prints them over the translation 9c33231e947285f8… (all of the seat's roots in one cut). By AI agents, Wed Nov 11 2026. No macro, syntax, notation, axiom, sorry.
-/
import Derived.Test.YtadgkhpdckocmaaChecked
import GoSem.Claim
import GoSem.ClaimJoined
import GoSem.ClaimMapViews
import Derived.JoinedTies
import Derived.KernelRfl
namespace Go.Proofs.Ytadgkhpdckocmaa
/- THE CELL 'sum', in the pinned program and in every row, IS THE sha256 OF THE DUMP (.gsa) THAT YtadgkhpdckocmaaProg.lean LOADS. Nothing in Lean hashes anything: it is a label: what it is worth is what the hold of that sum in a sandbox is worth. -/
noncomputable def Try.pinned : Pinned := { name := "ytadgkhpdckocmaa", sum := "9c33231e947285f80fdd0ca0ecdeb70db6e63c7a1067be5f49f908537e69cdd4", checked := Try.checked }
namespace Rows
def none {H : Type} : Left H := { results := [], args := [] }

/-- 'laws.FnQuotients': WHATEVER THE INPUT: true; the input reads as it did. -/
def fnQuotientsSpec : ChangeSpec := { name := "fnQuotients", fn := fun _ => fun
  | [d] => { results := [.lit (.bool true)], args := [d] }
  | _ => none }
def fnQuotientsRow : OpenClaim := { program := "ytadgkhpdckocmaa", sum := "9c33231e947285f80fdd0ca0ecdeb70db6e63c7a1067be5f49f908537e69cdd4", func := "loop.example/g00915/laws.FnQuotients", spec := "fnQuotients", apart := false }
def FnQuotientsSaid : Prop := fnQuotientsRow.holds Try.pinned (OpenSpec.ofChange fnQuotientsSpec)

/-- ITS FALSE NEIGHBOUR: 'it returns false'. Refute it at one input. -/
def fnQuotientsWrong : ChangeSpec := { name := "fnQuotients", fn := fun _ => fun
  | [d] => { results := [.lit (.bool false)], args := [d] }
  | _ => none }
def FnQuotientsWrongFalsely : Prop := fnQuotientsRow.holds Try.pinned (OpenSpec.ofChange fnQuotientsWrong)

/-- 'laws.FnDivisors': WHATEVER THE INPUT: true; the input reads as it did. -/
def fnDivisorsSpec : ChangeSpec := { name := "fnDivisors", fn := fun _ => fun
  | [d] => { results := [.lit (.bool true)], args := [d] }
  | _ => none }
def fnDivisorsRow : OpenClaim := { program := "ytadgkhpdckocmaa", sum := "9c33231e947285f80fdd0ca0ecdeb70db6e63c7a1067be5f49f908537e69cdd4", func := "loop.example/g00915/laws.FnDivisors", spec := "fnDivisors", apart := false }
def FnDivisorsSaid : Prop := fnDivisorsRow.holds Try.pinned (OpenSpec.ofChange fnDivisorsSpec)

/-- ITS FALSE NEIGHBOUR: 'it returns false'. Refute it at one input. -/
def fnDivisorsWrong : ChangeSpec := { name := "fnDivisors", fn := fun _ => fun
  | [d] => { results := [.lit (.bool false)], args := [d] }
  | _ => none }
def FnDivisorsWrongFalsely : Prop := fnDivisorsRow.holds Try.pinned (OpenSpec.ofChange fnDivisorsWrong)

/-- 'laws.FnMedians': WHATEVER THE INPUT: true; the input reads as it did. -/
def fnMediansSpec : ChangeSpec := { name := "fnMedians", fn := fun _ => fun
  | [d] => { results := [.lit (.bool true)], args := [d] }
  | _ => none }
def fnMediansRow : OpenClaim := { program := "ytadgkhpdckocmaa", sum := "9c33231e947285f80fdd0ca0ecdeb70db6e63c7a1067be5f49f908537e69cdd4", func := "loop.example/g00915/laws.FnMedians", spec := "fnMedians", recurses := true, apart := false }
def FnMediansSaid : Prop := fnMediansRow.holds Try.pinned (OpenSpec.ofChange fnMediansSpec)

/-- ITS FALSE NEIGHBOUR: 'it returns false'. Refute it at one input. -/
def fnMediansWrong : ChangeSpec := { name := "fnMedians", fn := fun _ => fun
  | [d] => { results := [.lit (.bool false)], args := [d] }
  | _ => none }
def FnMediansWrongFalsely : Prop := fnMediansRow.holds Try.pinned (OpenSpec.ofChange fnMediansWrong)

/-- 'laws.FnExactQuotientBounds': WHATEVER THE INPUT: true; the input reads as it did. -/
def fnExactQuotientBoundsSpec : ChangeSpec := { name := "fnExactQuotientBounds", fn := fun _ => fun
  | [d1, d2] => { results := [.lit (.bool true)], args := [d1, d2] }
  | _ => none }
def fnExactQuotientBoundsRow : OpenClaim := { program := "ytadgkhpdckocmaa", sum := "9c33231e947285f80fdd0ca0ecdeb70db6e63c7a1067be5f49f908537e69cdd4", func := "loop.example/g00915/laws.FnExactQuotientBounds", spec := "fnExactQuotientBounds", apart := false }
def FnExactQuotientBoundsSaid : Prop := fnExactQuotientBoundsRow.holds Try.pinned (OpenSpec.ofChange fnExactQuotientBoundsSpec)

/-- ITS FALSE NEIGHBOUR: 'it returns false'. Refute it at one input. -/
def fnExactQuotientBoundsWrong : ChangeSpec := { name := "fnExactQuotientBounds", fn := fun _ => fun
  | [d1, d2] => { results := [.lit (.bool false)], args := [d1, d2] }
  | _ => none }
def FnExactQuotientBoundsWrongFalsely : Prop := fnExactQuotientBoundsRow.holds Try.pinned (OpenSpec.ofChange fnExactQuotientBoundsWrong)

/-- 'laws.FnExactNearestQuotient': WHATEVER THE INPUT: true; the input reads as it did. -/
def fnExactNearestQuotientSpec : ChangeSpec := { name := "fnExactNearestQuotient", fn := fun _ => fun
  | [d1, d2] => { results := [.lit (.bool true)], args := [d1, d2] }
  | _ => none }
def fnExactNearestQuotientRow : OpenClaim := { program := "ytadgkhpdckocmaa", sum := "9c33231e947285f80fdd0ca0ecdeb70db6e63c7a1067be5f49f908537e69cdd4", func := "loop.example/g00915/laws.FnExactNearestQuotient", spec := "fnExactNearestQuotient", apart := false }
def FnExactNearestQuotientSaid : Prop := fnExactNearestQuotientRow.holds Try.pinned (OpenSpec.ofChange fnExactNearestQuotientSpec)

/-- ITS FALSE NEIGHBOUR: 'it returns false'. Refute it at one input. -/
def fnExactNearestQuotientWrong : ChangeSpec := { name := "fnExactNearestQuotient", fn := fun _ => fun
  | [d1, d2] => { results := [.lit (.bool false)], args := [d1, d2] }
  | _ => none }
def FnExactNearestQuotientWrongFalsely : Prop := fnExactNearestQuotientRow.holds Try.pinned (OpenSpec.ofChange fnExactNearestQuotientWrong)

/-- 'laws.FnExactRootBounds': WHATEVER THE INPUT: true; the input reads as it did. -/
def fnExactRootBoundsSpec : ChangeSpec := { name := "fnExactRootBounds", fn := fun _ => fun
  | [d] => { results := [.lit (.bool true)], args := [d] }
  | _ => none }
def fnExactRootBoundsRow : OpenClaim := { program := "ytadgkhpdckocmaa", sum := "9c33231e947285f80fdd0ca0ecdeb70db6e63c7a1067be5f49f908537e69cdd4", func := "loop.example/g00915/laws.FnExactRootBounds", spec := "fnExactRootBounds", apart := false }
def FnExactRootBoundsSaid : Prop := fnExactRootBoundsRow.holds Try.pinned (OpenSpec.ofChange fnExactRootBoundsSpec)

/-- ITS FALSE NEIGHBOUR: 'it returns false'. Refute it at one input. -/
def fnExactRootBoundsWrong : ChangeSpec := { name := "fnExactRootBounds", fn := fun _ => fun
  | [d] => { results := [.lit (.bool false)], args := [d] }
  | _ => none }
def FnExactRootBoundsWrongFalsely : Prop := fnExactRootBoundsRow.holds Try.pinned (OpenSpec.ofChange fnExactRootBoundsWrong)

/-- 'laws.FnExactCommonDivisor': WHATEVER THE INPUT: true; the input reads as it did. -/
def fnExactCommonDivisorSpec : ChangeSpec := { name := "fnExactCommonDivisor", fn := fun _ => fun
  | [d1, d2] => { results := [.lit (.bool true)], args := [d1, d2] }
  | _ => none }
def fnExactCommonDivisorRow : OpenClaim := { program := "ytadgkhpdckocmaa", sum := "9c33231e947285f80fdd0ca0ecdeb70db6e63c7a1067be5f49f908537e69cdd4", func := "loop.example/g00915/laws.FnExactCommonDivisor", spec := "fnExactCommonDivisor", apart := false }
def FnExactCommonDivisorSaid : Prop := fnExactCommonDivisorRow.holds Try.pinned (OpenSpec.ofChange fnExactCommonDivisorSpec)

/-- ITS FALSE NEIGHBOUR: 'it returns false'. Refute it at one input. -/
def fnExactCommonDivisorWrong : ChangeSpec := { name := "fnExactCommonDivisor", fn := fun _ => fun
  | [d1, d2] => { results := [.lit (.bool false)], args := [d1, d2] }
  | _ => none }
def FnExactCommonDivisorWrongFalsely : Prop := fnExactCommonDivisorRow.holds Try.pinned (OpenSpec.ofChange fnExactCommonDivisorWrong)

/-- 'laws.FnExactMedianOf': WHATEVER THE INPUT: true; the input reads as it did. -/
def fnExactMedianOfSpec : ChangeSpec := { name := "fnExactMedianOf", fn := fun _ => fun
  | [d] => { results := [.lit (.bool true)], args := [d] }
  | _ => none }
def fnExactMedianOfRow : OpenClaim := { program := "ytadgkhpdckocmaa", sum := "9c33231e947285f80fdd0ca0ecdeb70db6e63c7a1067be5f49f908537e69cdd4", func := "loop.example/g00915/laws.FnExactMedianOf", spec := "fnExactMedianOf", recurses := true, apart := false }
def FnExactMedianOfSaid : Prop := fnExactMedianOfRow.holds Try.pinned (OpenSpec.ofChange fnExactMedianOfSpec)

/-- ITS FALSE NEIGHBOUR: 'it returns false'. Refute it at one input. -/
def fnExactMedianOfWrong : ChangeSpec := { name := "fnExactMedianOf", fn := fun _ => fun
  | [d] => { results := [.lit (.bool false)], args := [d] }
  | _ => none }
def FnExactMedianOfWrongFalsely : Prop := fnExactMedianOfRow.holds Try.pinned (OpenSpec.ofChange fnExactMedianOfWrong)

/-- 'laws.FnExactIsRising': WHATEVER THE INPUT: true; the input reads as it did. -/
def fnExactIsRisingSpec : ChangeSpec := { name := "fnExactIsRising", fn := fun _ => fun
  | [d1, d2] => { results := [.lit (.bool true)], args := [d1, d2] }
  | _ => none }
def fnExactIsRisingRow : OpenClaim := { program := "ytadgkhpdckocmaa", sum := "9c33231e947285f80fdd0ca0ecdeb70db6e63c7a1067be5f49f908537e69cdd4", func := "loop.example/g00915/laws.FnExactIsRising", spec := "fnExactIsRising", apart := false }
def FnExactIsRisingSaid : Prop := fnExactIsRisingRow.holds Try.pinned (OpenSpec.ofChange fnExactIsRisingSpec)

/-- ITS FALSE NEIGHBOUR: 'it returns false'. Refute it at one input. -/
def fnExactIsRisingWrong : ChangeSpec := { name := "fnExactIsRising", fn := fun _ => fun
  | [d1, d2] => { results := [.lit (.bool false)], args := [d1, d2] }
  | _ => none }
def FnExactIsRisingWrongFalsely : Prop := fnExactIsRisingRow.holds Try.pinned (OpenSpec.ofChange fnExactIsRisingWrong)

/- THE SECOND FORM. 'bulk': how many values and letters a reading holds, each counted each time it is reached (what is shared counts as often as it is met; a slice's spare places count too). A statement '..UptoSaid' is the law's where the arguments, and the package variables that the reading takes, are together of bulk at most 1048576: NARROWER than '..Said'. Prove '..Said' where nothing that the law and all that it calls make is longer than what came in: it says more and counts as full. Else prove '..UptoSaid'. A law counts once. -/
mutual
def uptoBulk {H : Type} : DataW H → Nat
  | .lit (.string bytes) => bytes.length + 1
  | .lit _ => 1
  | .nil => 1
  | .ptr d => uptoBulk d + 1
  | .slice elems spare => uptoBulkAll elems + uptoBulkAll spare + 1
  | .agg parts => uptoBulkAll parts + 1
  | .iface _ d => uptoBulk d + 1
  | .map entries => uptoBulkEntries entries + 1
  | .held _ => 1
def uptoBulkAll {H : Type} : List (DataW H) → Nat
  | [] => 0
  | d :: r => uptoBulk d + uptoBulkAll r
def uptoBulkEntries {H : Type} : List (Lit × DataW H) → Nat
  | [] => 0
  | x :: r => uptoBulkEntry x + uptoBulkEntries r
def uptoBulkEntry {H : Type} : Lit × DataW H → Nat
  | (.string bytes, d) => bytes.length + uptoBulk d + 1
  | (_, d) => uptoBulk d + 1
 end
def uptoSmall : (H : Type) → List (DataW H) → Bool := fun _ ds => decide (uptoBulkAll ds ≤ 1048576)
def OpenSpec.upto (s : _root_.Go.ChangeSpec) : _root_.Go.OpenSpec := { _root_.Go.OpenSpec.ofChange s with cond := some uptoSmall }

/-- 'laws.FnQuotients', WHERE WHAT IT READS IS OF BULK AT MOST 1048576: true; the input reads as it did. -/
def fnQuotientsUptoRow : OpenClaim := { program := "ytadgkhpdckocmaa", sum := "9c33231e947285f80fdd0ca0ecdeb70db6e63c7a1067be5f49f908537e69cdd4", func := "loop.example/g00915/laws.FnQuotients", spec := "fnQuotients", apart := false, narrowed := true }
def FnQuotientsUptoSaid : Prop := fnQuotientsUptoRow.holds Try.pinned (OpenSpec.upto fnQuotientsSpec)

/-- 'laws.FnDivisors', WHERE WHAT IT READS IS OF BULK AT MOST 1048576: true; the input reads as it did. -/
def fnDivisorsUptoRow : OpenClaim := { program := "ytadgkhpdckocmaa", sum := "9c33231e947285f80fdd0ca0ecdeb70db6e63c7a1067be5f49f908537e69cdd4", func := "loop.example/g00915/laws.FnDivisors", spec := "fnDivisors", apart := false, narrowed := true }
def FnDivisorsUptoSaid : Prop := fnDivisorsUptoRow.holds Try.pinned (OpenSpec.upto fnDivisorsSpec)

/-- 'laws.FnMedians', WHERE WHAT IT READS IS OF BULK AT MOST 1048576: true; the input reads as it did. -/
def fnMediansUptoRow : OpenClaim := { program := "ytadgkhpdckocmaa", sum := "9c33231e947285f80fdd0ca0ecdeb70db6e63c7a1067be5f49f908537e69cdd4", func := "loop.example/g00915/laws.FnMedians", spec := "fnMedians", recurses := true, apart := false, narrowed := true }
def FnMediansUptoSaid : Prop := fnMediansUptoRow.holds Try.pinned (OpenSpec.upto fnMediansSpec)

/-- 'laws.FnExactQuotientBounds', WHERE WHAT IT READS IS OF BULK AT MOST 1048576: true; the input reads as it did. -/
def fnExactQuotientBoundsUptoRow : OpenClaim := { program := "ytadgkhpdckocmaa", sum := "9c33231e947285f80fdd0ca0ecdeb70db6e63c7a1067be5f49f908537e69cdd4", func := "loop.example/g00915/laws.FnExactQuotientBounds", spec := "fnExactQuotientBounds", apart := false, narrowed := true }
def FnExactQuotientBoundsUptoSaid : Prop := fnExactQuotientBoundsUptoRow.holds Try.pinned (OpenSpec.upto fnExactQuotientBoundsSpec)

/-- 'laws.FnExactNearestQuotient', WHERE WHAT IT READS IS OF BULK AT MOST 1048576: true; the input reads as it did. -/
def fnExactNearestQuotientUptoRow : OpenClaim := { program := "ytadgkhpdckocmaa", sum := "9c33231e947285f80fdd0ca0ecdeb70db6e63c7a1067be5f49f908537e69cdd4", func := "loop.example/g00915/laws.FnExactNearestQuotient", spec := "fnExactNearestQuotient", apart := false, narrowed := true }
def FnExactNearestQuotientUptoSaid : Prop := fnExactNearestQuotientUptoRow.holds Try.pinned (OpenSpec.upto fnExactNearestQuotientSpec)

/-- 'laws.FnExactRootBounds', WHERE WHAT IT READS IS OF BULK AT MOST 1048576: true; the input reads as it did. -/
def fnExactRootBoundsUptoRow : OpenClaim := { program := "ytadgkhpdckocmaa", sum := "9c33231e947285f80fdd0ca0ecdeb70db6e63c7a1067be5f49f908537e69cdd4", func := "loop.example/g00915/laws.FnExactRootBounds", spec := "fnExactRootBounds", apart := false, narrowed := true }
def FnExactRootBoundsUptoSaid : Prop := fnExactRootBoundsUptoRow.holds Try.pinned (OpenSpec.upto fnExactRootBoundsSpec)

/-- 'laws.FnExactCommonDivisor', WHERE WHAT IT READS IS OF BULK AT MOST 1048576: true; the input reads as it did. -/
def fnExactCommonDivisorUptoRow : OpenClaim := { program := "ytadgkhpdckocmaa", sum := "9c33231e947285f80fdd0ca0ecdeb70db6e63c7a1067be5f49f908537e69cdd4", func := "loop.example/g00915/laws.FnExactCommonDivisor", spec := "fnExactCommonDivisor", apart := false, narrowed := true }
def FnExactCommonDivisorUptoSaid : Prop := fnExactCommonDivisorUptoRow.holds Try.pinned (OpenSpec.upto fnExactCommonDivisorSpec)

/-- 'laws.FnExactMedianOf', WHERE WHAT IT READS IS OF BULK AT MOST 1048576: true; the input reads as it did. -/
def fnExactMedianOfUptoRow : OpenClaim := { program := "ytadgkhpdckocmaa", sum := "9c33231e947285f80fdd0ca0ecdeb70db6e63c7a1067be5f49f908537e69cdd4", func := "loop.example/g00915/laws.FnExactMedianOf", spec := "fnExactMedianOf", recurses := true, apart := false, narrowed := true }
def FnExactMedianOfUptoSaid : Prop := fnExactMedianOfUptoRow.holds Try.pinned (OpenSpec.upto fnExactMedianOfSpec)

/-- 'laws.FnExactIsRising', WHERE WHAT IT READS IS OF BULK AT MOST 1048576: true; the input reads as it did. -/
def fnExactIsRisingUptoRow : OpenClaim := { program := "ytadgkhpdckocmaa", sum := "9c33231e947285f80fdd0ca0ecdeb70db6e63c7a1067be5f49f908537e69cdd4", func := "loop.example/g00915/laws.FnExactIsRising", spec := "fnExactIsRising", apart := false, narrowed := true }
def FnExactIsRisingUptoSaid : Prop := fnExactIsRisingUptoRow.holds Try.pinned (OpenSpec.upto fnExactIsRisingSpec)

end Rows
end Go.Proofs.Ytadgkhpdckocmaa
