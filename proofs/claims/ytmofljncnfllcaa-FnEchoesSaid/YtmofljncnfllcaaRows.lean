/-
  No cell of these rows narrows 'for every input' (looked for: loops, veiled, ifaces, maps, wideKeys, modest, calm, conditions, laid).
  DERIVED. THE GIVEN ROWS OF THIS SEAT. 8 by the template 'for every input the law returns true; each argument reads behind the call as it read before'; 0 by the template 'total and deterministic' (their statements: YtmofljncnfllcaaTotals.lean).
  GIVEN WITH THE SEED: the statements are not yours to turn. If you find one false, say at which input.
  Laid BY PROGRAM, IN A SANDBOX (cutbox-rows.mjs): the forced cells as the released guide's own fill.sh prints them over the translation 6f11186c500320fb… (all of the seat's roots in one cut). By AI agents, Wed Nov 11 2026. No macro, syntax, notation, axiom, sorry.
-/
import Derived.Test.YtmofljncnfllcaaChecked
import GoSem.Claim
import GoSem.ClaimJoined
import GoSem.ClaimMapViews
import Derived.JoinedTies
import Derived.KernelRfl
namespace Go.Proofs.Ytmofljncnfllcaa
/- THE CELL 'sum', in the pinned program and in every row, IS THE sha256 OF THE DUMP (.gsa) THAT YtmofljncnfllcaaProg.lean LOADS. Nothing in Lean hashes anything: it is a label: what it is worth is what the hold of that sum in a sandbox is worth. -/
noncomputable def Try.pinned : Pinned := { name := "ytmofljncnfllcaa", sum := "6f11186c500320fbc16f6d406aa92362a77f10192be0d9a0b052a7261e340a29", checked := Try.checked }
namespace Rows
def none {H : Type} : Left H := { results := [], args := [] }

/-- 'laws.FnExactMatchSignal': WHATEVER THE INPUT: true; the input reads as it did. -/
def fnExactMatchSignalSpec : ChangeSpec := { name := "fnExactMatchSignal", fn := fun _ => fun
  | [d1, d2] => { results := [.lit (.bool true)], args := [d1, d2] }
  | _ => none }
def fnExactMatchSignalRow : OpenClaim := { program := "ytmofljncnfllcaa", sum := "6f11186c500320fbc16f6d406aa92362a77f10192be0d9a0b052a7261e340a29", func := "loop.example/g00915/laws.FnExactMatchSignal", spec := "fnExactMatchSignal", unfollowed := true, recurses := true, apart := false }
def FnExactMatchSignalSaid : Prop := fnExactMatchSignalRow.holds Try.pinned (OpenSpec.ofChange fnExactMatchSignalSpec)

/-- ITS FALSE NEIGHBOUR: 'it returns false'. Refute it at one input. -/
def fnExactMatchSignalWrong : ChangeSpec := { name := "fnExactMatchSignal", fn := fun _ => fun
  | [d1, d2] => { results := [.lit (.bool false)], args := [d1, d2] }
  | _ => none }
def FnExactMatchSignalWrongFalsely : Prop := fnExactMatchSignalRow.holds Try.pinned (OpenSpec.ofChange fnExactMatchSignalWrong)

/-- 'laws.FnExactPeakOf': WHATEVER THE INPUT: true; the input reads as it did. -/
def fnExactPeakOfSpec : ChangeSpec := { name := "fnExactPeakOf", fn := fun _ => fun
  | [d] => { results := [.lit (.bool true)], args := [d] }
  | _ => none }
def fnExactPeakOfRow : OpenClaim := { program := "ytmofljncnfllcaa", sum := "6f11186c500320fbc16f6d406aa92362a77f10192be0d9a0b052a7261e340a29", func := "loop.example/g00915/laws.FnExactPeakOf", spec := "fnExactPeakOf", unfollowed := true, recurses := true, apart := false }
def FnExactPeakOfSaid : Prop := fnExactPeakOfRow.holds Try.pinned (OpenSpec.ofChange fnExactPeakOfSpec)

/-- ITS FALSE NEIGHBOUR: 'it returns false'. Refute it at one input. -/
def fnExactPeakOfWrong : ChangeSpec := { name := "fnExactPeakOf", fn := fun _ => fun
  | [d] => { results := [.lit (.bool false)], args := [d] }
  | _ => none }
def FnExactPeakOfWrongFalsely : Prop := fnExactPeakOfRow.holds Try.pinned (OpenSpec.ofChange fnExactPeakOfWrong)

/-- 'laws.FnExactDelayOf': WHATEVER THE INPUT: true; the input reads as it did. -/
def fnExactDelayOfSpec : ChangeSpec := { name := "fnExactDelayOf", fn := fun _ => fun
  | [d1, d2] => { results := [.lit (.bool true)], args := [d1, d2] }
  | _ => none }
def fnExactDelayOfRow : OpenClaim := { program := "ytmofljncnfllcaa", sum := "6f11186c500320fbc16f6d406aa92362a77f10192be0d9a0b052a7261e340a29", func := "loop.example/g00915/laws.FnExactDelayOf", spec := "fnExactDelayOf", unfollowed := true, recurses := true, apart := false }
def FnExactDelayOfSaid : Prop := fnExactDelayOfRow.holds Try.pinned (OpenSpec.ofChange fnExactDelayOfSpec)

/-- ITS FALSE NEIGHBOUR: 'it returns false'. Refute it at one input. -/
def fnExactDelayOfWrong : ChangeSpec := { name := "fnExactDelayOf", fn := fun _ => fun
  | [d1, d2] => { results := [.lit (.bool false)], args := [d1, d2] }
  | _ => none }
def FnExactDelayOfWrongFalsely : Prop := fnExactDelayOfRow.holds Try.pinned (OpenSpec.ofChange fnExactDelayOfWrong)

/-- 'laws.FnExactWeightOf': WHATEVER THE INPUT: true; the input reads as it did. -/
def fnExactWeightOfSpec : ChangeSpec := { name := "fnExactWeightOf", fn := fun _ => fun
  | [d] => { results := [.lit (.bool true)], args := [d] }
  | _ => none }
def fnExactWeightOfRow : OpenClaim := { program := "ytmofljncnfllcaa", sum := "6f11186c500320fbc16f6d406aa92362a77f10192be0d9a0b052a7261e340a29", func := "loop.example/g00915/laws.FnExactWeightOf", spec := "fnExactWeightOf", unfollowed := true, recurses := true, apart := false }
def FnExactWeightOfSaid : Prop := fnExactWeightOfRow.holds Try.pinned (OpenSpec.ofChange fnExactWeightOfSpec)

/-- ITS FALSE NEIGHBOUR: 'it returns false'. Refute it at one input. -/
def fnExactWeightOfWrong : ChangeSpec := { name := "fnExactWeightOf", fn := fun _ => fun
  | [d] => { results := [.lit (.bool false)], args := [d] }
  | _ => none }
def FnExactWeightOfWrongFalsely : Prop := fnExactWeightOfRow.holds Try.pinned (OpenSpec.ofChange fnExactWeightOfWrong)

/-- 'laws.FnExactIsClearEcho': WHATEVER THE INPUT: true; the input reads as it did. -/
def fnExactIsClearEchoSpec : ChangeSpec := { name := "fnExactIsClearEcho", fn := fun _ => fun
  | [d1, d2, d3] => { results := [.lit (.bool true)], args := [d1, d2, d3] }
  | _ => none }
def fnExactIsClearEchoRow : OpenClaim := { program := "ytmofljncnfllcaa", sum := "6f11186c500320fbc16f6d406aa92362a77f10192be0d9a0b052a7261e340a29", func := "loop.example/g00915/laws.FnExactIsClearEcho", spec := "fnExactIsClearEcho", unfollowed := true, recurses := true, apart := false }
def FnExactIsClearEchoSaid : Prop := fnExactIsClearEchoRow.holds Try.pinned (OpenSpec.ofChange fnExactIsClearEchoSpec)

/-- ITS FALSE NEIGHBOUR: 'it returns false'. Refute it at one input. -/
def fnExactIsClearEchoWrong : ChangeSpec := { name := "fnExactIsClearEcho", fn := fun _ => fun
  | [d1, d2, d3] => { results := [.lit (.bool false)], args := [d1, d2, d3] }
  | _ => none }
def FnExactIsClearEchoWrongFalsely : Prop := fnExactIsClearEchoRow.holds Try.pinned (OpenSpec.ofChange fnExactIsClearEchoWrong)

/-- 'laws.FnExactFindEchoes': WHATEVER THE INPUT: true; the input reads as it did. -/
def fnExactFindEchoesSpec : ChangeSpec := { name := "fnExactFindEchoes", fn := fun _ => fun
  | [d1, d2, d3, d4] => { results := [.lit (.bool true)], args := [d1, d2, d3, d4] }
  | _ => none }
def fnExactFindEchoesRow : OpenClaim := { program := "ytmofljncnfllcaa", sum := "6f11186c500320fbc16f6d406aa92362a77f10192be0d9a0b052a7261e340a29", func := "loop.example/g00915/laws.FnExactFindEchoes", spec := "fnExactFindEchoes", unfollowed := true, recurses := true, apart := false }
def FnExactFindEchoesSaid : Prop := fnExactFindEchoesRow.holds Try.pinned (OpenSpec.ofChange fnExactFindEchoesSpec)

/-- ITS FALSE NEIGHBOUR: 'it returns false'. Refute it at one input. -/
def fnExactFindEchoesWrong : ChangeSpec := { name := "fnExactFindEchoes", fn := fun _ => fun
  | [d1, d2, d3, d4] => { results := [.lit (.bool false)], args := [d1, d2, d3, d4] }
  | _ => none }
def FnExactFindEchoesWrongFalsely : Prop := fnExactFindEchoesRow.holds Try.pinned (OpenSpec.ofChange fnExactFindEchoesWrong)

/-- 'laws.FnMatches': WHATEVER THE INPUT: true; the input reads as it did. -/
def fnMatchesSpec : ChangeSpec := { name := "fnMatches", fn := fun _ => fun
  | [d] => { results := [.lit (.bool true)], args := [d] }
  | _ => none }
def fnMatchesRow : OpenClaim := { program := "ytmofljncnfllcaa", sum := "6f11186c500320fbc16f6d406aa92362a77f10192be0d9a0b052a7261e340a29", func := "loop.example/g00915/laws.FnMatches", spec := "fnMatches", unfollowed := true, recurses := true, apart := false }
def FnMatchesSaid : Prop := fnMatchesRow.holds Try.pinned (OpenSpec.ofChange fnMatchesSpec)

/-- ITS FALSE NEIGHBOUR: 'it returns false'. Refute it at one input. -/
def fnMatchesWrong : ChangeSpec := { name := "fnMatches", fn := fun _ => fun
  | [d] => { results := [.lit (.bool false)], args := [d] }
  | _ => none }
def FnMatchesWrongFalsely : Prop := fnMatchesRow.holds Try.pinned (OpenSpec.ofChange fnMatchesWrong)

/-- 'laws.FnEchoes': WHATEVER THE INPUT: true; the input reads as it did. -/
def fnEchoesSpec : ChangeSpec := { name := "fnEchoes", fn := fun _ => fun
  | [d] => { results := [.lit (.bool true)], args := [d] }
  | _ => none }
def fnEchoesRow : OpenClaim := { program := "ytmofljncnfllcaa", sum := "6f11186c500320fbc16f6d406aa92362a77f10192be0d9a0b052a7261e340a29", func := "loop.example/g00915/laws.FnEchoes", spec := "fnEchoes", unfollowed := true, recurses := true, apart := false }
def FnEchoesSaid : Prop := fnEchoesRow.holds Try.pinned (OpenSpec.ofChange fnEchoesSpec)

/-- ITS FALSE NEIGHBOUR: 'it returns false'. Refute it at one input. -/
def fnEchoesWrong : ChangeSpec := { name := "fnEchoes", fn := fun _ => fun
  | [d] => { results := [.lit (.bool false)], args := [d] }
  | _ => none }
def FnEchoesWrongFalsely : Prop := fnEchoesRow.holds Try.pinned (OpenSpec.ofChange fnEchoesWrong)

/- THE SECOND FORM. 'bulk': how many values and letters a reading holds, each counted each time it is reached (what is shared counts as often as it is met; a slice's spare places count too). A statement '..UptoSaid' is the law's where the arguments, and the package variables that the reading takes, are together of bulk at most 1048576: NARROWER than '..Said'. Prove '..Said' where nothing that the law and all that it calls make is longer than what came in: it says more and counts as full. Else prove '..UptoSaid'. A law counts once. -/
mutual
def uptoBulk {H : Type} : DataW H → Nat
  | .lit (.string bytes) => bytes.length + 1
  | .lit _ => 1
  | .nil => 1
  | .ptr d => uptoBulk d + 1
  | .slice elems spare => uptoBulkAll elems + uptoBulkAll spare + 1
  | .agg parts => uptoBulkAll parts + 1
  | .iface _ d => uptoBulk d + 1
  | .map entries => uptoBulkEntries entries + 1
  | .held _ => 1
def uptoBulkAll {H : Type} : List (DataW H) → Nat
  | [] => 0
  | d :: r => uptoBulk d + uptoBulkAll r
def uptoBulkEntries {H : Type} : List (Lit × DataW H) → Nat
  | [] => 0
  | x :: r => uptoBulkEntry x + uptoBulkEntries r
def uptoBulkEntry {H : Type} : Lit × DataW H → Nat
  | (.string bytes, d) => bytes.length + uptoBulk d + 1
  | (_, d) => uptoBulk d + 1
 end
def uptoSmall : (H : Type) → List (DataW H) → Bool := fun _ ds => decide (uptoBulkAll ds ≤ 1048576)
def OpenSpec.upto (s : _root_.Go.ChangeSpec) : _root_.Go.OpenSpec := { _root_.Go.OpenSpec.ofChange s with cond := some uptoSmall }

/-- 'laws.FnExactMatchSignal', WHERE WHAT IT READS IS OF BULK AT MOST 1048576: true; the input reads as it did. -/
def fnExactMatchSignalUptoRow : OpenClaim := { program := "ytmofljncnfllcaa", sum := "6f11186c500320fbc16f6d406aa92362a77f10192be0d9a0b052a7261e340a29", func := "loop.example/g00915/laws.FnExactMatchSignal", spec := "fnExactMatchSignal", unfollowed := true, recurses := true, apart := false, narrowed := true }
def FnExactMatchSignalUptoSaid : Prop := fnExactMatchSignalUptoRow.holds Try.pinned (OpenSpec.upto fnExactMatchSignalSpec)

/-- 'laws.FnExactPeakOf', WHERE WHAT IT READS IS OF BULK AT MOST 1048576: true; the input reads as it did. -/
def fnExactPeakOfUptoRow : OpenClaim := { program := "ytmofljncnfllcaa", sum := "6f11186c500320fbc16f6d406aa92362a77f10192be0d9a0b052a7261e340a29", func := "loop.example/g00915/laws.FnExactPeakOf", spec := "fnExactPeakOf", unfollowed := true, recurses := true, apart := false, narrowed := true }
def FnExactPeakOfUptoSaid : Prop := fnExactPeakOfUptoRow.holds Try.pinned (OpenSpec.upto fnExactPeakOfSpec)

/-- 'laws.FnExactDelayOf', WHERE WHAT IT READS IS OF BULK AT MOST 1048576: true; the input reads as it did. -/
def fnExactDelayOfUptoRow : OpenClaim := { program := "ytmofljncnfllcaa", sum := "6f11186c500320fbc16f6d406aa92362a77f10192be0d9a0b052a7261e340a29", func := "loop.example/g00915/laws.FnExactDelayOf", spec := "fnExactDelayOf", unfollowed := true, recurses := true, apart := false, narrowed := true }
def FnExactDelayOfUptoSaid : Prop := fnExactDelayOfUptoRow.holds Try.pinned (OpenSpec.upto fnExactDelayOfSpec)

/-- 'laws.FnExactWeightOf', WHERE WHAT IT READS IS OF BULK AT MOST 1048576: true; the input reads as it did. -/
def fnExactWeightOfUptoRow : OpenClaim := { program := "ytmofljncnfllcaa", sum := "6f11186c500320fbc16f6d406aa92362a77f10192be0d9a0b052a7261e340a29", func := "loop.example/g00915/laws.FnExactWeightOf", spec := "fnExactWeightOf", unfollowed := true, recurses := true, apart := false, narrowed := true }
def FnExactWeightOfUptoSaid : Prop := fnExactWeightOfUptoRow.holds Try.pinned (OpenSpec.upto fnExactWeightOfSpec)

/-- 'laws.FnExactIsClearEcho', WHERE WHAT IT READS IS OF BULK AT MOST 1048576: true; the input reads as it did. -/
def fnExactIsClearEchoUptoRow : OpenClaim := { program := "ytmofljncnfllcaa", sum := "6f11186c500320fbc16f6d406aa92362a77f10192be0d9a0b052a7261e340a29", func := "loop.example/g00915/laws.FnExactIsClearEcho", spec := "fnExactIsClearEcho", unfollowed := true, recurses := true, apart := false, narrowed := true }
def FnExactIsClearEchoUptoSaid : Prop := fnExactIsClearEchoUptoRow.holds Try.pinned (OpenSpec.upto fnExactIsClearEchoSpec)

/-- 'laws.FnExactFindEchoes', WHERE WHAT IT READS IS OF BULK AT MOST 1048576: true; the input reads as it did. -/
def fnExactFindEchoesUptoRow : OpenClaim := { program := "ytmofljncnfllcaa", sum := "6f11186c500320fbc16f6d406aa92362a77f10192be0d9a0b052a7261e340a29", func := "loop.example/g00915/laws.FnExactFindEchoes", spec := "fnExactFindEchoes", unfollowed := true, recurses := true, apart := false, narrowed := true }
def FnExactFindEchoesUptoSaid : Prop := fnExactFindEchoesUptoRow.holds Try.pinned (OpenSpec.upto fnExactFindEchoesSpec)

/-- 'laws.FnMatches', WHERE WHAT IT READS IS OF BULK AT MOST 1048576: true; the input reads as it did. -/
def fnMatchesUptoRow : OpenClaim := { program := "ytmofljncnfllcaa", sum := "6f11186c500320fbc16f6d406aa92362a77f10192be0d9a0b052a7261e340a29", func := "loop.example/g00915/laws.FnMatches", spec := "fnMatches", unfollowed := true, recurses := true, apart := false, narrowed := true }
def FnMatchesUptoSaid : Prop := fnMatchesUptoRow.holds Try.pinned (OpenSpec.upto fnMatchesSpec)

/-- 'laws.FnEchoes', WHERE WHAT IT READS IS OF BULK AT MOST 1048576: true; the input reads as it did. -/
def fnEchoesUptoRow : OpenClaim := { program := "ytmofljncnfllcaa", sum := "6f11186c500320fbc16f6d406aa92362a77f10192be0d9a0b052a7261e340a29", func := "loop.example/g00915/laws.FnEchoes", spec := "fnEchoes", unfollowed := true, recurses := true, apart := false, narrowed := true }
def FnEchoesUptoSaid : Prop := fnEchoesUptoRow.holds Try.pinned (OpenSpec.upto fnEchoesSpec)

end Rows
end Go.Proofs.Ytmofljncnfllcaa
