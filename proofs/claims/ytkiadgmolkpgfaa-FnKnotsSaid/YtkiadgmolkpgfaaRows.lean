/-
  No cell of these rows narrows 'for every input' (looked for: loops, veiled, ifaces, maps, wideKeys, modest, calm, conditions, laid).
  DERIVED. THE GIVEN ROWS OF THIS SEAT. 9 by the template 'for every input the law returns true; each argument reads behind the call as it read before'; 0 by the template 'total and deterministic' (their statements: YtkiadgmolkpgfaaTotals.lean).
  GIVEN WITH THE SEED: the statements are not yours to turn. If you find one false, say at which input.
  Laid BY PROGRAM, IN A SANDBOX (cutbox-rows.mjs): the forced cells as the released guide's own fill.sh prints them over the translation c4455505b62f2291… (all of the seat's roots in one cut). By AI agents, Wed Nov 11 2026. No macro, syntax, notation, axiom, sorry.
-/
import Derived.Test.YtkiadgmolkpgfaaChecked
import GoSem.Claim
import GoSem.ClaimJoined
import GoSem.ClaimMapViews
import Derived.JoinedTies
import Derived.KernelRfl
namespace Go.Proofs.Ytkiadgmolkpgfaa
/- THE CELL 'sum', in the pinned program and in every row, IS THE sha256 OF THE DUMP (.gsa) THAT YtkiadgmolkpgfaaProg.lean LOADS. Nothing in Lean hashes anything: it is a label: what it is worth is what the hold of that sum in a sandbox is worth. -/
noncomputable def Try.pinned : Pinned := { name := "ytkiadgmolkpgfaa", sum := "c4455505b62f22918a0aeb9b0eb9d19a7adf6449d0d8696168eb8235fa814a0e", checked := Try.checked }
namespace Rows
def none {H : Type} : Left H := { results := [], args := [] }

/-- 'laws.FnSpeeds': WHATEVER THE INPUT: true; the input reads as it did. -/
def fnSpeedsSpec : ChangeSpec := { name := "fnSpeeds", fn := fun _ => fun
  | [d] => { results := [.lit (.bool true)], args := [d] }
  | _ => none }
def fnSpeedsRow : OpenClaim := { program := "ytkiadgmolkpgfaa", sum := "c4455505b62f22918a0aeb9b0eb9d19a7adf6449d0d8696168eb8235fa814a0e", func := "loop.example/g00915/laws.FnSpeeds", spec := "fnSpeeds", unfollowed := true, recurses := true, apart := false }
def FnSpeedsSaid : Prop := fnSpeedsRow.holds Try.pinned (OpenSpec.ofChange fnSpeedsSpec)

/-- ITS FALSE NEIGHBOUR: 'it returns false'. Refute it at one input. -/
def fnSpeedsWrong : ChangeSpec := { name := "fnSpeeds", fn := fun _ => fun
  | [d] => { results := [.lit (.bool false)], args := [d] }
  | _ => none }
def FnSpeedsWrongFalsely : Prop := fnSpeedsRow.holds Try.pinned (OpenSpec.ofChange fnSpeedsWrong)

/-- 'laws.FnKnots': WHATEVER THE INPUT: true; the input reads as it did. -/
def fnKnotsSpec : ChangeSpec := { name := "fnKnots", fn := fun _ => fun
  | [d] => { results := [.lit (.bool true)], args := [d] }
  | _ => none }
def fnKnotsRow : OpenClaim := { program := "ytkiadgmolkpgfaa", sum := "c4455505b62f22918a0aeb9b0eb9d19a7adf6449d0d8696168eb8235fa814a0e", func := "loop.example/g00915/laws.FnKnots", spec := "fnKnots", unfollowed := true, recurses := true, apart := false }
def FnKnotsSaid : Prop := fnKnotsRow.holds Try.pinned (OpenSpec.ofChange fnKnotsSpec)

/-- ITS FALSE NEIGHBOUR: 'it returns false'. Refute it at one input. -/
def fnKnotsWrong : ChangeSpec := { name := "fnKnots", fn := fun _ => fun
  | [d] => { results := [.lit (.bool false)], args := [d] }
  | _ => none }
def FnKnotsWrongFalsely : Prop := fnKnotsRow.holds Try.pinned (OpenSpec.ofChange fnKnotsWrong)

/-- 'laws.FnExactIsProfile': WHATEVER THE INPUT: true; the input reads as it did. -/
def fnExactIsProfileSpec : ChangeSpec := { name := "fnExactIsProfile", fn := fun _ => fun
  | [d] => { results := [.lit (.bool true)], args := [d] }
  | _ => none }
def fnExactIsProfileRow : OpenClaim := { program := "ytkiadgmolkpgfaa", sum := "c4455505b62f22918a0aeb9b0eb9d19a7adf6449d0d8696168eb8235fa814a0e", func := "loop.example/g00915/laws.FnExactIsProfile", spec := "fnExactIsProfile", unfollowed := true, recurses := true, apart := false }
def FnExactIsProfileSaid : Prop := fnExactIsProfileRow.holds Try.pinned (OpenSpec.ofChange fnExactIsProfileSpec)

/-- ITS FALSE NEIGHBOUR: 'it returns false'. Refute it at one input. -/
def fnExactIsProfileWrong : ChangeSpec := { name := "fnExactIsProfile", fn := fun _ => fun
  | [d] => { results := [.lit (.bool false)], args := [d] }
  | _ => none }
def FnExactIsProfileWrongFalsely : Prop := fnExactIsProfileRow.holds Try.pinned (OpenSpec.ofChange fnExactIsProfileWrong)

/-- 'laws.FnExactLayerOf': WHATEVER THE INPUT: true; the input reads as it did. -/
def fnExactLayerOfSpec : ChangeSpec := { name := "fnExactLayerOf", fn := fun _ => fun
  | [d1, d2] => { results := [.lit (.bool true)], args := [d1, d2] }
  | _ => none }
def fnExactLayerOfRow : OpenClaim := { program := "ytkiadgmolkpgfaa", sum := "c4455505b62f22918a0aeb9b0eb9d19a7adf6449d0d8696168eb8235fa814a0e", func := "loop.example/g00915/laws.FnExactLayerOf", spec := "fnExactLayerOf", unfollowed := true, recurses := true, apart := false }
def FnExactLayerOfSaid : Prop := fnExactLayerOfRow.holds Try.pinned (OpenSpec.ofChange fnExactLayerOfSpec)

/-- ITS FALSE NEIGHBOUR: 'it returns false'. Refute it at one input. -/
def fnExactLayerOfWrong : ChangeSpec := { name := "fnExactLayerOf", fn := fun _ => fun
  | [d1, d2] => { results := [.lit (.bool false)], args := [d1, d2] }
  | _ => none }
def FnExactLayerOfWrongFalsely : Prop := fnExactLayerOfRow.holds Try.pinned (OpenSpec.ofChange fnExactLayerOfWrong)

/-- 'laws.FnExactSpeedAt': WHATEVER THE INPUT: true; the input reads as it did. -/
def fnExactSpeedAtSpec : ChangeSpec := { name := "fnExactSpeedAt", fn := fun _ => fun
  | [d1, d2] => { results := [.lit (.bool true)], args := [d1, d2] }
  | _ => none }
def fnExactSpeedAtRow : OpenClaim := { program := "ytkiadgmolkpgfaa", sum := "c4455505b62f22918a0aeb9b0eb9d19a7adf6449d0d8696168eb8235fa814a0e", func := "loop.example/g00915/laws.FnExactSpeedAt", spec := "fnExactSpeedAt", unfollowed := true, recurses := true, apart := false }
def FnExactSpeedAtSaid : Prop := fnExactSpeedAtRow.holds Try.pinned (OpenSpec.ofChange fnExactSpeedAtSpec)

/-- ITS FALSE NEIGHBOUR: 'it returns false'. Refute it at one input. -/
def fnExactSpeedAtWrong : ChangeSpec := { name := "fnExactSpeedAt", fn := fun _ => fun
  | [d1, d2] => { results := [.lit (.bool false)], args := [d1, d2] }
  | _ => none }
def FnExactSpeedAtWrongFalsely : Prop := fnExactSpeedAtRow.holds Try.pinned (OpenSpec.ofChange fnExactSpeedAtWrong)

/-- 'laws.FnExactGradientOf': WHATEVER THE INPUT: true; the input reads as it did. -/
def fnExactGradientOfSpec : ChangeSpec := { name := "fnExactGradientOf", fn := fun _ => fun
  | [d1, d2] => { results := [.lit (.bool true)], args := [d1, d2] }
  | _ => none }
def fnExactGradientOfRow : OpenClaim := { program := "ytkiadgmolkpgfaa", sum := "c4455505b62f22918a0aeb9b0eb9d19a7adf6449d0d8696168eb8235fa814a0e", func := "loop.example/g00915/laws.FnExactGradientOf", spec := "fnExactGradientOf", unfollowed := true, recurses := true, apart := false }
def FnExactGradientOfSaid : Prop := fnExactGradientOfRow.holds Try.pinned (OpenSpec.ofChange fnExactGradientOfSpec)

/-- ITS FALSE NEIGHBOUR: 'it returns false'. Refute it at one input. -/
def fnExactGradientOfWrong : ChangeSpec := { name := "fnExactGradientOf", fn := fun _ => fun
  | [d1, d2] => { results := [.lit (.bool false)], args := [d1, d2] }
  | _ => none }
def FnExactGradientOfWrongFalsely : Prop := fnExactGradientOfRow.holds Try.pinned (OpenSpec.ofChange fnExactGradientOfWrong)

/-- 'laws.FnExactAxisOf': WHATEVER THE INPUT: true; the input reads as it did. -/
def fnExactAxisOfSpec : ChangeSpec := { name := "fnExactAxisOf", fn := fun _ => fun
  | [d] => { results := [.lit (.bool true)], args := [d] }
  | _ => none }
def fnExactAxisOfRow : OpenClaim := { program := "ytkiadgmolkpgfaa", sum := "c4455505b62f22918a0aeb9b0eb9d19a7adf6449d0d8696168eb8235fa814a0e", func := "loop.example/g00915/laws.FnExactAxisOf", spec := "fnExactAxisOf", unfollowed := true, recurses := true, apart := false }
def FnExactAxisOfSaid : Prop := fnExactAxisOfRow.holds Try.pinned (OpenSpec.ofChange fnExactAxisOfSpec)

/-- ITS FALSE NEIGHBOUR: 'it returns false'. Refute it at one input. -/
def fnExactAxisOfWrong : ChangeSpec := { name := "fnExactAxisOf", fn := fun _ => fun
  | [d] => { results := [.lit (.bool false)], args := [d] }
  | _ => none }
def FnExactAxisOfWrongFalsely : Prop := fnExactAxisOfRow.holds Try.pinned (OpenSpec.ofChange fnExactAxisOfWrong)

/-- 'laws.FnExactFastestTo': WHATEVER THE INPUT: true; the input reads as it did. -/
def fnExactFastestToSpec : ChangeSpec := { name := "fnExactFastestTo", fn := fun _ => fun
  | [d1, d2] => { results := [.lit (.bool true)], args := [d1, d2] }
  | _ => none }
def fnExactFastestToRow : OpenClaim := { program := "ytkiadgmolkpgfaa", sum := "c4455505b62f22918a0aeb9b0eb9d19a7adf6449d0d8696168eb8235fa814a0e", func := "loop.example/g00915/laws.FnExactFastestTo", spec := "fnExactFastestTo", unfollowed := true, recurses := true, apart := false }
def FnExactFastestToSaid : Prop := fnExactFastestToRow.holds Try.pinned (OpenSpec.ofChange fnExactFastestToSpec)

/-- ITS FALSE NEIGHBOUR: 'it returns false'. Refute it at one input. -/
def fnExactFastestToWrong : ChangeSpec := { name := "fnExactFastestTo", fn := fun _ => fun
  | [d1, d2] => { results := [.lit (.bool false)], args := [d1, d2] }
  | _ => none }
def FnExactFastestToWrongFalsely : Prop := fnExactFastestToRow.holds Try.pinned (OpenSpec.ofChange fnExactFastestToWrong)

/-- 'laws.FnExactCutProfile': WHATEVER THE INPUT: true; the input reads as it did. -/
def fnExactCutProfileSpec : ChangeSpec := { name := "fnExactCutProfile", fn := fun _ => fun
  | [d1, d2] => { results := [.lit (.bool true)], args := [d1, d2] }
  | _ => none }
def fnExactCutProfileRow : OpenClaim := { program := "ytkiadgmolkpgfaa", sum := "c4455505b62f22918a0aeb9b0eb9d19a7adf6449d0d8696168eb8235fa814a0e", func := "loop.example/g00915/laws.FnExactCutProfile", spec := "fnExactCutProfile", unfollowed := true, recurses := true, apart := false }
def FnExactCutProfileSaid : Prop := fnExactCutProfileRow.holds Try.pinned (OpenSpec.ofChange fnExactCutProfileSpec)

/-- ITS FALSE NEIGHBOUR: 'it returns false'. Refute it at one input. -/
def fnExactCutProfileWrong : ChangeSpec := { name := "fnExactCutProfile", fn := fun _ => fun
  | [d1, d2] => { results := [.lit (.bool false)], args := [d1, d2] }
  | _ => none }
def FnExactCutProfileWrongFalsely : Prop := fnExactCutProfileRow.holds Try.pinned (OpenSpec.ofChange fnExactCutProfileWrong)

/- THE SECOND FORM. 'bulk': how many values and letters a reading holds, each counted each time it is reached (what is shared counts as often as it is met; a slice's spare places count too). A statement '..UptoSaid' is the law's where the arguments, and the package variables that the reading takes, are together of bulk at most 1048576: NARROWER than '..Said'. Prove '..Said' where nothing that the law and all that it calls make is longer than what came in: it says more and counts as full. Else prove '..UptoSaid'. A law counts once. -/
mutual
def uptoBulk {H : Type} : DataW H → Nat
  | .lit (.string bytes) => bytes.length + 1
  | .lit _ => 1
  | .nil => 1
  | .ptr d => uptoBulk d + 1
  | .slice elems spare => uptoBulkAll elems + uptoBulkAll spare + 1
  | .agg parts => uptoBulkAll parts + 1
  | .iface _ d => uptoBulk d + 1
  | .map entries => uptoBulkEntries entries + 1
  | .held _ => 1
def uptoBulkAll {H : Type} : List (DataW H) → Nat
  | [] => 0
  | d :: r => uptoBulk d + uptoBulkAll r
def uptoBulkEntries {H : Type} : List (Lit × DataW H) → Nat
  | [] => 0
  | x :: r => uptoBulkEntry x + uptoBulkEntries r
def uptoBulkEntry {H : Type} : Lit × DataW H → Nat
  | (.string bytes, d) => bytes.length + uptoBulk d + 1
  | (_, d) => uptoBulk d + 1
 end
def uptoSmall : (H : Type) → List (DataW H) → Bool := fun _ ds => decide (uptoBulkAll ds ≤ 1048576)
def OpenSpec.upto (s : _root_.Go.ChangeSpec) : _root_.Go.OpenSpec := { _root_.Go.OpenSpec.ofChange s with cond := some uptoSmall }

/-- 'laws.FnSpeeds', WHERE WHAT IT READS IS OF BULK AT MOST 1048576: true; the input reads as it did. -/
def fnSpeedsUptoRow : OpenClaim := { program := "ytkiadgmolkpgfaa", sum := "c4455505b62f22918a0aeb9b0eb9d19a7adf6449d0d8696168eb8235fa814a0e", func := "loop.example/g00915/laws.FnSpeeds", spec := "fnSpeeds", unfollowed := true, recurses := true, apart := false, narrowed := true }
def FnSpeedsUptoSaid : Prop := fnSpeedsUptoRow.holds Try.pinned (OpenSpec.upto fnSpeedsSpec)

/-- 'laws.FnKnots', WHERE WHAT IT READS IS OF BULK AT MOST 1048576: true; the input reads as it did. -/
def fnKnotsUptoRow : OpenClaim := { program := "ytkiadgmolkpgfaa", sum := "c4455505b62f22918a0aeb9b0eb9d19a7adf6449d0d8696168eb8235fa814a0e", func := "loop.example/g00915/laws.FnKnots", spec := "fnKnots", unfollowed := true, recurses := true, apart := false, narrowed := true }
def FnKnotsUptoSaid : Prop := fnKnotsUptoRow.holds Try.pinned (OpenSpec.upto fnKnotsSpec)

/-- 'laws.FnExactIsProfile', WHERE WHAT IT READS IS OF BULK AT MOST 1048576: true; the input reads as it did. -/
def fnExactIsProfileUptoRow : OpenClaim := { program := "ytkiadgmolkpgfaa", sum := "c4455505b62f22918a0aeb9b0eb9d19a7adf6449d0d8696168eb8235fa814a0e", func := "loop.example/g00915/laws.FnExactIsProfile", spec := "fnExactIsProfile", unfollowed := true, recurses := true, apart := false, narrowed := true }
def FnExactIsProfileUptoSaid : Prop := fnExactIsProfileUptoRow.holds Try.pinned (OpenSpec.upto fnExactIsProfileSpec)

/-- 'laws.FnExactLayerOf', WHERE WHAT IT READS IS OF BULK AT MOST 1048576: true; the input reads as it did. -/
def fnExactLayerOfUptoRow : OpenClaim := { program := "ytkiadgmolkpgfaa", sum := "c4455505b62f22918a0aeb9b0eb9d19a7adf6449d0d8696168eb8235fa814a0e", func := "loop.example/g00915/laws.FnExactLayerOf", spec := "fnExactLayerOf", unfollowed := true, recurses := true, apart := false, narrowed := true }
def FnExactLayerOfUptoSaid : Prop := fnExactLayerOfUptoRow.holds Try.pinned (OpenSpec.upto fnExactLayerOfSpec)

/-- 'laws.FnExactSpeedAt', WHERE WHAT IT READS IS OF BULK AT MOST 1048576: true; the input reads as it did. -/
def fnExactSpeedAtUptoRow : OpenClaim := { program := "ytkiadgmolkpgfaa", sum := "c4455505b62f22918a0aeb9b0eb9d19a7adf6449d0d8696168eb8235fa814a0e", func := "loop.example/g00915/laws.FnExactSpeedAt", spec := "fnExactSpeedAt", unfollowed := true, recurses := true, apart := false, narrowed := true }
def FnExactSpeedAtUptoSaid : Prop := fnExactSpeedAtUptoRow.holds Try.pinned (OpenSpec.upto fnExactSpeedAtSpec)

/-- 'laws.FnExactGradientOf', WHERE WHAT IT READS IS OF BULK AT MOST 1048576: true; the input reads as it did. -/
def fnExactGradientOfUptoRow : OpenClaim := { program := "ytkiadgmolkpgfaa", sum := "c4455505b62f22918a0aeb9b0eb9d19a7adf6449d0d8696168eb8235fa814a0e", func := "loop.example/g00915/laws.FnExactGradientOf", spec := "fnExactGradientOf", unfollowed := true, recurses := true, apart := false, narrowed := true }
def FnExactGradientOfUptoSaid : Prop := fnExactGradientOfUptoRow.holds Try.pinned (OpenSpec.upto fnExactGradientOfSpec)

/-- 'laws.FnExactAxisOf', WHERE WHAT IT READS IS OF BULK AT MOST 1048576: true; the input reads as it did. -/
def fnExactAxisOfUptoRow : OpenClaim := { program := "ytkiadgmolkpgfaa", sum := "c4455505b62f22918a0aeb9b0eb9d19a7adf6449d0d8696168eb8235fa814a0e", func := "loop.example/g00915/laws.FnExactAxisOf", spec := "fnExactAxisOf", unfollowed := true, recurses := true, apart := false, narrowed := true }
def FnExactAxisOfUptoSaid : Prop := fnExactAxisOfUptoRow.holds Try.pinned (OpenSpec.upto fnExactAxisOfSpec)

/-- 'laws.FnExactFastestTo', WHERE WHAT IT READS IS OF BULK AT MOST 1048576: true; the input reads as it did. -/
def fnExactFastestToUptoRow : OpenClaim := { program := "ytkiadgmolkpgfaa", sum := "c4455505b62f22918a0aeb9b0eb9d19a7adf6449d0d8696168eb8235fa814a0e", func := "loop.example/g00915/laws.FnExactFastestTo", spec := "fnExactFastestTo", unfollowed := true, recurses := true, apart := false, narrowed := true }
def FnExactFastestToUptoSaid : Prop := fnExactFastestToUptoRow.holds Try.pinned (OpenSpec.upto fnExactFastestToSpec)

/-- 'laws.FnExactCutProfile', WHERE WHAT IT READS IS OF BULK AT MOST 1048576: true; the input reads as it did. -/
def fnExactCutProfileUptoRow : OpenClaim := { program := "ytkiadgmolkpgfaa", sum := "c4455505b62f22918a0aeb9b0eb9d19a7adf6449d0d8696168eb8235fa814a0e", func := "loop.example/g00915/laws.FnExactCutProfile", spec := "fnExactCutProfile", unfollowed := true, recurses := true, apart := false, narrowed := true }
def FnExactCutProfileUptoSaid : Prop := fnExactCutProfileUptoRow.holds Try.pinned (OpenSpec.upto fnExactCutProfileSpec)

end Rows
end Go.Proofs.Ytkiadgmolkpgfaa
