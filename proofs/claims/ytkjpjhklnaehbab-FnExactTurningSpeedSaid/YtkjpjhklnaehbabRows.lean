/-
  No cell of these rows narrows 'for every input' (looked for: loops, veiled, ifaces, maps, wideKeys, modest, calm, conditions, laid).
  DERIVED. THE GIVEN ROWS OF THIS SEAT. 3 by the template 'for every input the law returns true; each argument reads behind the call as it read before'; 0 by the template 'total and deterministic' (their statements: YtkjpjhklnaehbabTotals.lean).
  GIVEN WITH THE SEED: the statements are not yours to turn. If you find one false, say at which input.
  Laid BY PROGRAM, IN A SANDBOX (cutbox-rows.mjs): the forced cells as the released guide's own fill.sh prints them over the translation 0aa3fedd799a0902… (all of the seat's roots in one cut). By AI agents, Wed Nov 11 2026. No macro, syntax, notation, axiom, sorry.
-/
import Derived.Test.YtkjpjhklnaehbabChecked
import GoSem.Claim
import GoSem.ClaimJoined
import GoSem.ClaimMapViews
import Derived.JoinedTies
import Derived.KernelRfl
namespace Go.Proofs.Ytkjpjhklnaehbab
/- THE CELL 'sum', in the pinned program and in every row, IS THE sha256 OF THE DUMP (.gsa) THAT YtkjpjhklnaehbabProg.lean LOADS. Nothing in Lean hashes anything: it is a label: what it is worth is what the hold of that sum in a sandbox is worth. -/
noncomputable def Try.pinned : Pinned := { name := "ytkjpjhklnaehbab", sum := "0aa3fedd799a0902289f1295ea4627c9dfe690a29a7a8a989c8834ca33636d25", checked := Try.checked }
namespace Rows
def none {H : Type} : Left H := { results := [], args := [] }

/-- 'laws.FnExactTurningSpeed': WHATEVER THE INPUT: true; the input reads as it did. -/
def fnExactTurningSpeedSpec : ChangeSpec := { name := "fnExactTurningSpeed", fn := fun _ => fun
  | [d1, d2, d3] => { results := [.lit (.bool true)], args := [d1, d2, d3] }
  | _ => none }
def fnExactTurningSpeedRow : OpenClaim := { program := "ytkjpjhklnaehbab", sum := "0aa3fedd799a0902289f1295ea4627c9dfe690a29a7a8a989c8834ca33636d25", func := "loop.example/g00915/laws.FnExactTurningSpeed", spec := "fnExactTurningSpeed", unfollowed := true, recurses := true, apart := false }
def FnExactTurningSpeedSaid : Prop := fnExactTurningSpeedRow.holds Try.pinned (OpenSpec.ofChange fnExactTurningSpeedSpec)

/-- ITS FALSE NEIGHBOUR: 'it returns false'. Refute it at one input. -/
def fnExactTurningSpeedWrong : ChangeSpec := { name := "fnExactTurningSpeed", fn := fun _ => fun
  | [d1, d2, d3] => { results := [.lit (.bool false)], args := [d1, d2, d3] }
  | _ => none }
def FnExactTurningSpeedWrongFalsely : Prop := fnExactTurningSpeedRow.holds Try.pinned (OpenSpec.ofChange fnExactTurningSpeedWrong)

/-- 'laws.FnTurningSpeeds': WHATEVER THE INPUT: true; the input reads as it did. -/
def fnTurningSpeedsSpec : ChangeSpec := { name := "fnTurningSpeeds", fn := fun _ => fun
  | [d] => { results := [.lit (.bool true)], args := [d] }
  | _ => none }
def fnTurningSpeedsRow : OpenClaim := { program := "ytkjpjhklnaehbab", sum := "0aa3fedd799a0902289f1295ea4627c9dfe690a29a7a8a989c8834ca33636d25", func := "loop.example/g00915/laws.FnTurningSpeeds", spec := "fnTurningSpeeds", unfollowed := true, recurses := true, apart := false }
def FnTurningSpeedsSaid : Prop := fnTurningSpeedsRow.holds Try.pinned (OpenSpec.ofChange fnTurningSpeedsSpec)

/-- ITS FALSE NEIGHBOUR: 'it returns false'. Refute it at one input. -/
def fnTurningSpeedsWrong : ChangeSpec := { name := "fnTurningSpeeds", fn := fun _ => fun
  | [d] => { results := [.lit (.bool false)], args := [d] }
  | _ => none }
def FnTurningSpeedsWrongFalsely : Prop := fnTurningSpeedsRow.holds Try.pinned (OpenSpec.ofChange fnTurningSpeedsWrong)

/-- 'laws.FnRadii': WHATEVER THE INPUT: true; the input reads as it did. -/
def fnRadiiSpec : ChangeSpec := { name := "fnRadii", fn := fun _ => fun
  | [d] => { results := [.lit (.bool true)], args := [d] }
  | _ => none }
def fnRadiiRow : OpenClaim := { program := "ytkjpjhklnaehbab", sum := "0aa3fedd799a0902289f1295ea4627c9dfe690a29a7a8a989c8834ca33636d25", func := "loop.example/g00915/laws.FnRadii", spec := "fnRadii", unfollowed := true, recurses := true, apart := false }
def FnRadiiSaid : Prop := fnRadiiRow.holds Try.pinned (OpenSpec.ofChange fnRadiiSpec)

/-- ITS FALSE NEIGHBOUR: 'it returns false'. Refute it at one input. -/
def fnRadiiWrong : ChangeSpec := { name := "fnRadii", fn := fun _ => fun
  | [d] => { results := [.lit (.bool false)], args := [d] }
  | _ => none }
def FnRadiiWrongFalsely : Prop := fnRadiiRow.holds Try.pinned (OpenSpec.ofChange fnRadiiWrong)

/- THE SECOND FORM. 'bulk': how many values and letters a reading holds, each counted each time it is reached (what is shared counts as often as it is met; a slice's spare places count too). A statement '..UptoSaid' is the law's where the arguments, and the package variables that the reading takes, are together of bulk at most 1048576: NARROWER than '..Said'. Prove '..Said' where nothing that the law and all that it calls make is longer than what came in: it says more and counts as full. Else prove '..UptoSaid'. A law counts once. -/
mutual
def uptoBulk {H : Type} : DataW H → Nat
  | .lit (.string bytes) => bytes.length + 1
  | .lit _ => 1
  | .nil => 1
  | .ptr d => uptoBulk d + 1
  | .slice elems spare => uptoBulkAll elems + uptoBulkAll spare + 1
  | .agg parts => uptoBulkAll parts + 1
  | .iface _ d => uptoBulk d + 1
  | .map entries => uptoBulkEntries entries + 1
  | .held _ => 1
def uptoBulkAll {H : Type} : List (DataW H) → Nat
  | [] => 0
  | d :: r => uptoBulk d + uptoBulkAll r
def uptoBulkEntries {H : Type} : List (Lit × DataW H) → Nat
  | [] => 0
  | x :: r => uptoBulkEntry x + uptoBulkEntries r
def uptoBulkEntry {H : Type} : Lit × DataW H → Nat
  | (.string bytes, d) => bytes.length + uptoBulk d + 1
  | (_, d) => uptoBulk d + 1
 end
def uptoSmall : (H : Type) → List (DataW H) → Bool := fun _ ds => decide (uptoBulkAll ds ≤ 1048576)
def OpenSpec.upto (s : _root_.Go.ChangeSpec) : _root_.Go.OpenSpec := { _root_.Go.OpenSpec.ofChange s with cond := some uptoSmall }

/-- 'laws.FnExactTurningSpeed', WHERE WHAT IT READS IS OF BULK AT MOST 1048576: true; the input reads as it did. -/
def fnExactTurningSpeedUptoRow : OpenClaim := { program := "ytkjpjhklnaehbab", sum := "0aa3fedd799a0902289f1295ea4627c9dfe690a29a7a8a989c8834ca33636d25", func := "loop.example/g00915/laws.FnExactTurningSpeed", spec := "fnExactTurningSpeed", unfollowed := true, recurses := true, apart := false, narrowed := true }
def FnExactTurningSpeedUptoSaid : Prop := fnExactTurningSpeedUptoRow.holds Try.pinned (OpenSpec.upto fnExactTurningSpeedSpec)

/-- 'laws.FnTurningSpeeds', WHERE WHAT IT READS IS OF BULK AT MOST 1048576: true; the input reads as it did. -/
def fnTurningSpeedsUptoRow : OpenClaim := { program := "ytkjpjhklnaehbab", sum := "0aa3fedd799a0902289f1295ea4627c9dfe690a29a7a8a989c8834ca33636d25", func := "loop.example/g00915/laws.FnTurningSpeeds", spec := "fnTurningSpeeds", unfollowed := true, recurses := true, apart := false, narrowed := true }
def FnTurningSpeedsUptoSaid : Prop := fnTurningSpeedsUptoRow.holds Try.pinned (OpenSpec.upto fnTurningSpeedsSpec)

/-- 'laws.FnRadii', WHERE WHAT IT READS IS OF BULK AT MOST 1048576: true; the input reads as it did. -/
def fnRadiiUptoRow : OpenClaim := { program := "ytkjpjhklnaehbab", sum := "0aa3fedd799a0902289f1295ea4627c9dfe690a29a7a8a989c8834ca33636d25", func := "loop.example/g00915/laws.FnRadii", spec := "fnRadii", unfollowed := true, recurses := true, apart := false, narrowed := true }
def FnRadiiUptoSaid : Prop := fnRadiiUptoRow.holds Try.pinned (OpenSpec.upto fnRadiiSpec)

end Rows
end Go.Proofs.Ytkjpjhklnaehbab
