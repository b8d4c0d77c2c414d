/-
  No cell of these rows narrows 'for every input' (looked for: loops, veiled, ifaces, maps, wideKeys, modest, calm, conditions, laid).
  DERIVED. THE GIVEN ROWS OF THIS SEAT. 11 by the template 'for every input the law returns true; each argument reads behind the call as it read before'; 0 by the template 'total and deterministic' (their statements: YtpnebnjpeiieaaaTotals.lean).
  GIVEN WITH THE SEED: the statements are not yours to turn. If you find one false, say at which input.
  Laid BY PROGRAM, IN A SANDBOX (cutbox-rows.mjs): the forced cells as the released guide's own fill.sh prints them over the translation 7370e7aeb6bd981f… (all of the seat's roots in one cut). By AI agents, Wed Nov 11 2026. No macro, syntax, notation, axiom, sorry.
-/
import Derived.Test.YtpnebnjpeiieaaaChecked
import GoSem.Claim
import GoSem.ClaimJoined
import GoSem.ClaimMapViews
import Derived.JoinedTies
import Derived.KernelRfl
namespace Go.Proofs.Ytpnebnjpeiieaaa
/- THE CELL 'sum', in the pinned program and in every row, IS THE sha256 OF THE DUMP (.gsa) THAT YtpnebnjpeiieaaaProg.lean LOADS. Nothing in Lean hashes anything: it is a label: what it is worth is what the hold of that sum in a sandbox is worth. -/
noncomputable def Try.pinned : Pinned := { name := "ytpnebnjpeiieaaa", sum := "7370e7aeb6bd981fcdbe6c33be7f4e3a6dce9cc778e3a419b7a1c33d9eef9541", checked := Try.checked }
namespace Rows
def none {H : Type} : Left H := { results := [], args := [] }

/-- 'laws.FnCorrelated': WHATEVER THE INPUT: true; the input reads as it did. -/
def fnCorrelatedSpec : ChangeSpec := { name := "fnCorrelated", fn := fun _ => fun
  | [d] => { results := [.lit (.bool true)], args := [d] }
  | _ => none }
def fnCorrelatedRow : OpenClaim := { program := "ytpnebnjpeiieaaa", sum := "7370e7aeb6bd981fcdbe6c33be7f4e3a6dce9cc778e3a419b7a1c33d9eef9541", func := "loop.example/g00915/laws.FnCorrelated", spec := "fnCorrelated", unfollowed := true, recurses := true, apart := false }
def FnCorrelatedSaid : Prop := fnCorrelatedRow.holds Try.pinned (OpenSpec.ofChange fnCorrelatedSpec)

/-- ITS FALSE NEIGHBOUR: 'it returns false'. Refute it at one input. -/
def fnCorrelatedWrong : ChangeSpec := { name := "fnCorrelated", fn := fun _ => fun
  | [d] => { results := [.lit (.bool false)], args := [d] }
  | _ => none }
def FnCorrelatedWrongFalsely : Prop := fnCorrelatedRow.holds Try.pinned (OpenSpec.ofChange fnCorrelatedWrong)

/-- 'laws.FnPulses': WHATEVER THE INPUT: true; the input reads as it did. -/
def fnPulsesSpec : ChangeSpec := { name := "fnPulses", fn := fun _ => fun
  | [d] => { results := [.lit (.bool true)], args := [d] }
  | _ => none }
def fnPulsesRow : OpenClaim := { program := "ytpnebnjpeiieaaa", sum := "7370e7aeb6bd981fcdbe6c33be7f4e3a6dce9cc778e3a419b7a1c33d9eef9541", func := "loop.example/g00915/laws.FnPulses", spec := "fnPulses", unfollowed := true, recurses := true, apart := false }
def FnPulsesSaid : Prop := fnPulsesRow.holds Try.pinned (OpenSpec.ofChange fnPulsesSpec)

/-- ITS FALSE NEIGHBOUR: 'it returns false'. Refute it at one input. -/
def fnPulsesWrong : ChangeSpec := { name := "fnPulses", fn := fun _ => fun
  | [d] => { results := [.lit (.bool false)], args := [d] }
  | _ => none }
def FnPulsesWrongFalsely : Prop := fnPulsesRow.holds Try.pinned (OpenSpec.ofChange fnPulsesWrong)

/-- 'laws.FnEchoSums': WHATEVER THE INPUT: true; the input reads as it did. -/
def fnEchoSumsSpec : ChangeSpec := { name := "fnEchoSums", fn := fun _ => fun
  | [d] => { results := [.lit (.bool true)], args := [d] }
  | _ => none }
def fnEchoSumsRow : OpenClaim := { program := "ytpnebnjpeiieaaa", sum := "7370e7aeb6bd981fcdbe6c33be7f4e3a6dce9cc778e3a419b7a1c33d9eef9541", func := "loop.example/g00915/laws.FnEchoSums", spec := "fnEchoSums", unfollowed := true, recurses := true, apart := false }
def FnEchoSumsSaid : Prop := fnEchoSumsRow.holds Try.pinned (OpenSpec.ofChange fnEchoSumsSpec)

/-- ITS FALSE NEIGHBOUR: 'it returns false'. Refute it at one input. -/
def fnEchoSumsWrong : ChangeSpec := { name := "fnEchoSums", fn := fun _ => fun
  | [d] => { results := [.lit (.bool false)], args := [d] }
  | _ => none }
def FnEchoSumsWrongFalsely : Prop := fnEchoSumsRow.holds Try.pinned (OpenSpec.ofChange fnEchoSumsWrong)

/-- 'laws.FnExactIsSignal': WHATEVER THE INPUT: true; the input reads as it did. -/
def fnExactIsSignalSpec : ChangeSpec := { name := "fnExactIsSignal", fn := fun _ => fun
  | [d] => { results := [.lit (.bool true)], args := [d] }
  | _ => none }
def fnExactIsSignalRow : OpenClaim := { program := "ytpnebnjpeiieaaa", sum := "7370e7aeb6bd981fcdbe6c33be7f4e3a6dce9cc778e3a419b7a1c33d9eef9541", func := "loop.example/g00915/laws.FnExactIsSignal", spec := "fnExactIsSignal", unfollowed := true, recurses := true, apart := false }
def FnExactIsSignalSaid : Prop := fnExactIsSignalRow.holds Try.pinned (OpenSpec.ofChange fnExactIsSignalSpec)

/-- ITS FALSE NEIGHBOUR: 'it returns false'. Refute it at one input. -/
def fnExactIsSignalWrong : ChangeSpec := { name := "fnExactIsSignal", fn := fun _ => fun
  | [d] => { results := [.lit (.bool false)], args := [d] }
  | _ => none }
def FnExactIsSignalWrongFalsely : Prop := fnExactIsSignalRow.holds Try.pinned (OpenSpec.ofChange fnExactIsSignalWrong)

/-- 'laws.FnExactEnergyOf': WHATEVER THE INPUT: true; the input reads as it did. -/
def fnExactEnergyOfSpec : ChangeSpec := { name := "fnExactEnergyOf", fn := fun _ => fun
  | [d] => { results := [.lit (.bool true)], args := [d] }
  | _ => none }
def fnExactEnergyOfRow : OpenClaim := { program := "ytpnebnjpeiieaaa", sum := "7370e7aeb6bd981fcdbe6c33be7f4e3a6dce9cc778e3a419b7a1c33d9eef9541", func := "loop.example/g00915/laws.FnExactEnergyOf", spec := "fnExactEnergyOf", unfollowed := true, recurses := true, apart := false }
def FnExactEnergyOfSaid : Prop := fnExactEnergyOfRow.holds Try.pinned (OpenSpec.ofChange fnExactEnergyOfSpec)

/-- ITS FALSE NEIGHBOUR: 'it returns false'. Refute it at one input. -/
def fnExactEnergyOfWrong : ChangeSpec := { name := "fnExactEnergyOf", fn := fun _ => fun
  | [d] => { results := [.lit (.bool false)], args := [d] }
  | _ => none }
def FnExactEnergyOfWrongFalsely : Prop := fnExactEnergyOfRow.holds Try.pinned (OpenSpec.ofChange fnExactEnergyOfWrong)

/-- 'laws.FnExactCorrelations': WHATEVER THE INPUT: true; the input reads as it did. -/
def fnExactCorrelationsSpec : ChangeSpec := { name := "fnExactCorrelations", fn := fun _ => fun
  | [d] => { results := [.lit (.bool true)], args := [d] }
  | _ => none }
def fnExactCorrelationsRow : OpenClaim := { program := "ytpnebnjpeiieaaa", sum := "7370e7aeb6bd981fcdbe6c33be7f4e3a6dce9cc778e3a419b7a1c33d9eef9541", func := "loop.example/g00915/laws.FnExactCorrelations", spec := "fnExactCorrelations", unfollowed := true, recurses := true, apart := false }
def FnExactCorrelationsSaid : Prop := fnExactCorrelationsRow.holds Try.pinned (OpenSpec.ofChange fnExactCorrelationsSpec)

/-- ITS FALSE NEIGHBOUR: 'it returns false'. Refute it at one input. -/
def fnExactCorrelationsWrong : ChangeSpec := { name := "fnExactCorrelations", fn := fun _ => fun
  | [d] => { results := [.lit (.bool false)], args := [d] }
  | _ => none }
def FnExactCorrelationsWrongFalsely : Prop := fnExactCorrelationsRow.holds Try.pinned (OpenSpec.ofChange fnExactCorrelationsWrong)

/-- 'laws.FnExactSidelobeOf': WHATEVER THE INPUT: true; the input reads as it did. -/
def fnExactSidelobeOfSpec : ChangeSpec := { name := "fnExactSidelobeOf", fn := fun _ => fun
  | [d] => { results := [.lit (.bool true)], args := [d] }
  | _ => none }
def fnExactSidelobeOfRow : OpenClaim := { program := "ytpnebnjpeiieaaa", sum := "7370e7aeb6bd981fcdbe6c33be7f4e3a6dce9cc778e3a419b7a1c33d9eef9541", func := "loop.example/g00915/laws.FnExactSidelobeOf", spec := "fnExactSidelobeOf", unfollowed := true, recurses := true, apart := false }
def FnExactSidelobeOfSaid : Prop := fnExactSidelobeOfRow.holds Try.pinned (OpenSpec.ofChange fnExactSidelobeOfSpec)

/-- ITS FALSE NEIGHBOUR: 'it returns false'. Refute it at one input. -/
def fnExactSidelobeOfWrong : ChangeSpec := { name := "fnExactSidelobeOf", fn := fun _ => fun
  | [d] => { results := [.lit (.bool false)], args := [d] }
  | _ => none }
def FnExactSidelobeOfWrongFalsely : Prop := fnExactSidelobeOfRow.holds Try.pinned (OpenSpec.ofChange fnExactSidelobeOfWrong)

/-- 'laws.FnExactPulseOfBits': WHATEVER THE INPUT: true; the input reads as it did. -/
def fnExactPulseOfBitsSpec : ChangeSpec := { name := "fnExactPulseOfBits", fn := fun _ => fun
  | [d1, d2, d3] => { results := [.lit (.bool true)], args := [d1, d2, d3] }
  | _ => none }
def fnExactPulseOfBitsRow : OpenClaim := { program := "ytpnebnjpeiieaaa", sum := "7370e7aeb6bd981fcdbe6c33be7f4e3a6dce9cc778e3a419b7a1c33d9eef9541", func := "loop.example/g00915/laws.FnExactPulseOfBits", spec := "fnExactPulseOfBits", unfollowed := true, recurses := true, apart := false }
def FnExactPulseOfBitsSaid : Prop := fnExactPulseOfBitsRow.holds Try.pinned (OpenSpec.ofChange fnExactPulseOfBitsSpec)

/-- ITS FALSE NEIGHBOUR: 'it returns false'. Refute it at one input. -/
def fnExactPulseOfBitsWrong : ChangeSpec := { name := "fnExactPulseOfBits", fn := fun _ => fun
  | [d1, d2, d3] => { results := [.lit (.bool false)], args := [d1, d2, d3] }
  | _ => none }
def FnExactPulseOfBitsWrongFalsely : Prop := fnExactPulseOfBitsRow.holds Try.pinned (OpenSpec.ofChange fnExactPulseOfBitsWrong)

/-- 'laws.FnExactEchoesOf': WHATEVER THE INPUT: true; the input reads as it did. -/
def fnExactEchoesOfSpec : ChangeSpec := { name := "fnExactEchoesOf", fn := fun _ => fun
  | [d1, d2, d3, d4] => { results := [.lit (.bool true)], args := [d1, d2, d3, d4] }
  | _ => none }
def fnExactEchoesOfRow : OpenClaim := { program := "ytpnebnjpeiieaaa", sum := "7370e7aeb6bd981fcdbe6c33be7f4e3a6dce9cc778e3a419b7a1c33d9eef9541", func := "loop.example/g00915/laws.FnExactEchoesOf", spec := "fnExactEchoesOf", unfollowed := true, recurses := true, apart := false }
def FnExactEchoesOfSaid : Prop := fnExactEchoesOfRow.holds Try.pinned (OpenSpec.ofChange fnExactEchoesOfSpec)

/-- ITS FALSE NEIGHBOUR: 'it returns false'. Refute it at one input. -/
def fnExactEchoesOfWrong : ChangeSpec := { name := "fnExactEchoesOf", fn := fun _ => fun
  | [d1, d2, d3, d4] => { results := [.lit (.bool false)], args := [d1, d2, d3, d4] }
  | _ => none }
def FnExactEchoesOfWrongFalsely : Prop := fnExactEchoesOfRow.holds Try.pinned (OpenSpec.ofChange fnExactEchoesOfWrong)

/-- 'laws.FnExactTurnSignal': WHATEVER THE INPUT: true; the input reads as it did. -/
def fnExactTurnSignalSpec : ChangeSpec := { name := "fnExactTurnSignal", fn := fun _ => fun
  | [d] => { results := [.lit (.bool true)], args := [d] }
  | _ => none }
def fnExactTurnSignalRow : OpenClaim := { program := "ytpnebnjpeiieaaa", sum := "7370e7aeb6bd981fcdbe6c33be7f4e3a6dce9cc778e3a419b7a1c33d9eef9541", func := "loop.example/g00915/laws.FnExactTurnSignal", spec := "fnExactTurnSignal", unfollowed := true, recurses := true, apart := false }
def FnExactTurnSignalSaid : Prop := fnExactTurnSignalRow.holds Try.pinned (OpenSpec.ofChange fnExactTurnSignalSpec)

/-- ITS FALSE NEIGHBOUR: 'it returns false'. Refute it at one input. -/
def fnExactTurnSignalWrong : ChangeSpec := { name := "fnExactTurnSignal", fn := fun _ => fun
  | [d] => { results := [.lit (.bool false)], args := [d] }
  | _ => none }
def FnExactTurnSignalWrongFalsely : Prop := fnExactTurnSignalRow.holds Try.pinned (OpenSpec.ofChange fnExactTurnSignalWrong)

/-- 'laws.FnExactBestCode': WHATEVER THE INPUT: true; the input reads as it did. -/
def fnExactBestCodeSpec : ChangeSpec := { name := "fnExactBestCode", fn := fun _ => fun
  | [d] => { results := [.lit (.bool true)], args := [d] }
  | _ => none }
def fnExactBestCodeRow : OpenClaim := { program := "ytpnebnjpeiieaaa", sum := "7370e7aeb6bd981fcdbe6c33be7f4e3a6dce9cc778e3a419b7a1c33d9eef9541", func := "loop.example/g00915/laws.FnExactBestCode", spec := "fnExactBestCode", unfollowed := true, recurses := true, apart := false }
def FnExactBestCodeSaid : Prop := fnExactBestCodeRow.holds Try.pinned (OpenSpec.ofChange fnExactBestCodeSpec)

/-- ITS FALSE NEIGHBOUR: 'it returns false'. Refute it at one input. -/
def fnExactBestCodeWrong : ChangeSpec := { name := "fnExactBestCode", fn := fun _ => fun
  | [d] => { results := [.lit (.bool false)], args := [d] }
  | _ => none }
def FnExactBestCodeWrongFalsely : Prop := fnExactBestCodeRow.holds Try.pinned (OpenSpec.ofChange fnExactBestCodeWrong)

/- THE SECOND FORM. 'bulk': how many values and letters a reading holds, each counted each time it is reached (what is shared counts as often as it is met; a slice's spare places count too). A statement '..UptoSaid' is the law's where the arguments, and the package variables that the reading takes, are together of bulk at most 1048576: NARROWER than '..Said'. Prove '..Said' where nothing that the law and all that it calls make is longer than what came in: it says more and counts as full. Else prove '..UptoSaid'. A law counts once. -/
mutual
def uptoBulk {H : Type} : DataW H → Nat
  | .lit (.string bytes) => bytes.length + 1
  | .lit _ => 1
  | .nil => 1
  | .ptr d => uptoBulk d + 1
  | .slice elems spare => uptoBulkAll elems + uptoBulkAll spare + 1
  | .agg parts => uptoBulkAll parts + 1
  | .iface _ d => uptoBulk d + 1
  | .map entries => uptoBulkEntries entries + 1
  | .held _ => 1
def uptoBulkAll {H : Type} : List (DataW H) → Nat
  | [] => 0
  | d :: r => uptoBulk d + uptoBulkAll r
def uptoBulkEntries {H : Type} : List (Lit × DataW H) → Nat
  | [] => 0
  | x :: r => uptoBulkEntry x + uptoBulkEntries r
def uptoBulkEntry {H : Type} : Lit × DataW H → Nat
  | (.string bytes, d) => bytes.length + uptoBulk d + 1
  | (_, d) => uptoBulk d + 1
 end
def uptoSmall : (H : Type) → List (DataW H) → Bool := fun _ ds => decide (uptoBulkAll ds ≤ 1048576)
def OpenSpec.upto (s : _root_.Go.ChangeSpec) : _root_.Go.OpenSpec := { _root_.Go.OpenSpec.ofChange s with cond := some uptoSmall }

/-- 'laws.FnCorrelated', WHERE WHAT IT READS IS OF BULK AT MOST 1048576: true; the input reads as it did. -/
def fnCorrelatedUptoRow : OpenClaim := { program := "ytpnebnjpeiieaaa", sum := "7370e7aeb6bd981fcdbe6c33be7f4e3a6dce9cc778e3a419b7a1c33d9eef9541", func := "loop.example/g00915/laws.FnCorrelated", spec := "fnCorrelated", unfollowed := true, recurses := true, apart := false, narrowed := true }
def FnCorrelatedUptoSaid : Prop := fnCorrelatedUptoRow.holds Try.pinned (OpenSpec.upto fnCorrelatedSpec)

/-- 'laws.FnPulses', WHERE WHAT IT READS IS OF BULK AT MOST 1048576: true; the input reads as it did. -/
def fnPulsesUptoRow : OpenClaim := { program := "ytpnebnjpeiieaaa", sum := "7370e7aeb6bd981fcdbe6c33be7f4e3a6dce9cc778e3a419b7a1c33d9eef9541", func := "loop.example/g00915/laws.FnPulses", spec := "fnPulses", unfollowed := true, recurses := true, apart := false, narrowed := true }
def FnPulsesUptoSaid : Prop := fnPulsesUptoRow.holds Try.pinned (OpenSpec.upto fnPulsesSpec)

/-- 'laws.FnEchoSums', WHERE WHAT IT READS IS OF BULK AT MOST 1048576: true; the input reads as it did. -/
def fnEchoSumsUptoRow : OpenClaim := { program := "ytpnebnjpeiieaaa", sum := "7370e7aeb6bd981fcdbe6c33be7f4e3a6dce9cc778e3a419b7a1c33d9eef9541", func := "loop.example/g00915/laws.FnEchoSums", spec := "fnEchoSums", unfollowed := true, recurses := true, apart := false, narrowed := true }
def FnEchoSumsUptoSaid : Prop := fnEchoSumsUptoRow.holds Try.pinned (OpenSpec.upto fnEchoSumsSpec)

/-- 'laws.FnExactIsSignal', WHERE WHAT IT READS IS OF BULK AT MOST 1048576: true; the input reads as it did. -/
def fnExactIsSignalUptoRow : OpenClaim := { program := "ytpnebnjpeiieaaa", sum := "7370e7aeb6bd981fcdbe6c33be7f4e3a6dce9cc778e3a419b7a1c33d9eef9541", func := "loop.example/g00915/laws.FnExactIsSignal", spec := "fnExactIsSignal", unfollowed := true, recurses := true, apart := false, narrowed := true }
def FnExactIsSignalUptoSaid : Prop := fnExactIsSignalUptoRow.holds Try.pinned (OpenSpec.upto fnExactIsSignalSpec)

/-- 'laws.FnExactEnergyOf', WHERE WHAT IT READS IS OF BULK AT MOST 1048576: true; the input reads as it did. -/
def fnExactEnergyOfUptoRow : OpenClaim := { program := "ytpnebnjpeiieaaa", sum := "7370e7aeb6bd981fcdbe6c33be7f4e3a6dce9cc778e3a419b7a1c33d9eef9541", func := "loop.example/g00915/laws.FnExactEnergyOf", spec := "fnExactEnergyOf", unfollowed := true, recurses := true, apart := false, narrowed := true }
def FnExactEnergyOfUptoSaid : Prop := fnExactEnergyOfUptoRow.holds Try.pinned (OpenSpec.upto fnExactEnergyOfSpec)

/-- 'laws.FnExactCorrelations', WHERE WHAT IT READS IS OF BULK AT MOST 1048576: true; the input reads as it did. -/
def fnExactCorrelationsUptoRow : OpenClaim := { program := "ytpnebnjpeiieaaa", sum := "7370e7aeb6bd981fcdbe6c33be7f4e3a6dce9cc778e3a419b7a1c33d9eef9541", func := "loop.example/g00915/laws.FnExactCorrelations", spec := "fnExactCorrelations", unfollowed := true, recurses := true, apart := false, narrowed := true }
def FnExactCorrelationsUptoSaid : Prop := fnExactCorrelationsUptoRow.holds Try.pinned (OpenSpec.upto fnExactCorrelationsSpec)

/-- 'laws.FnExactSidelobeOf', WHERE WHAT IT READS IS OF BULK AT MOST 1048576: true; the input reads as it did. -/
def fnExactSidelobeOfUptoRow : OpenClaim := { program := "ytpnebnjpeiieaaa", sum := "7370e7aeb6bd981fcdbe6c33be7f4e3a6dce9cc778e3a419b7a1c33d9eef9541", func := "loop.example/g00915/laws.FnExactSidelobeOf", spec := "fnExactSidelobeOf", unfollowed := true, recurses := true, apart := false, narrowed := true }
def FnExactSidelobeOfUptoSaid : Prop := fnExactSidelobeOfUptoRow.holds Try.pinned (OpenSpec.upto fnExactSidelobeOfSpec)

/-- 'laws.FnExactPulseOfBits', WHERE WHAT IT READS IS OF BULK AT MOST 1048576: true; the input reads as it did. -/
def fnExactPulseOfBitsUptoRow : OpenClaim := { program := "ytpnebnjpeiieaaa", sum := "7370e7aeb6bd981fcdbe6c33be7f4e3a6dce9cc778e3a419b7a1c33d9eef9541", func := "loop.example/g00915/laws.FnExactPulseOfBits", spec := "fnExactPulseOfBits", unfollowed := true, recurses := true, apart := false, narrowed := true }
def FnExactPulseOfBitsUptoSaid : Prop := fnExactPulseOfBitsUptoRow.holds Try.pinned (OpenSpec.upto fnExactPulseOfBitsSpec)

/-- 'laws.FnExactEchoesOf', WHERE WHAT IT READS IS OF BULK AT MOST 1048576: true; the input reads as it did. -/
def fnExactEchoesOfUptoRow : OpenClaim := { program := "ytpnebnjpeiieaaa", sum := "7370e7aeb6bd981fcdbe6c33be7f4e3a6dce9cc778e3a419b7a1c33d9eef9541", func := "loop.example/g00915/laws.FnExactEchoesOf", spec := "fnExactEchoesOf", unfollowed := true, recurses := true, apart := false, narrowed := true }
def FnExactEchoesOfUptoSaid : Prop := fnExactEchoesOfUptoRow.holds Try.pinned (OpenSpec.upto fnExactEchoesOfSpec)

/-- 'laws.FnExactTurnSignal', WHERE WHAT IT READS IS OF BULK AT MOST 1048576: true; the input reads as it did. -/
def fnExactTurnSignalUptoRow : OpenClaim := { program := "ytpnebnjpeiieaaa", sum := "7370e7aeb6bd981fcdbe6c33be7f4e3a6dce9cc778e3a419b7a1c33d9eef9541", func := "loop.example/g00915/laws.FnExactTurnSignal", spec := "fnExactTurnSignal", unfollowed := true, recurses := true, apart := false, narrowed := true }
def FnExactTurnSignalUptoSaid : Prop := fnExactTurnSignalUptoRow.holds Try.pinned (OpenSpec.upto fnExactTurnSignalSpec)

/-- 'laws.FnExactBestCode', WHERE WHAT IT READS IS OF BULK AT MOST 1048576: true; the input reads as it did. -/
def fnExactBestCodeUptoRow : OpenClaim := { program := "ytpnebnjpeiieaaa", sum := "7370e7aeb6bd981fcdbe6c33be7f4e3a6dce9cc778e3a419b7a1c33d9eef9541", func := "loop.example/g00915/laws.FnExactBestCode", spec := "fnExactBestCode", unfollowed := true, recurses := true, apart := false, narrowed := true }
def FnExactBestCodeUptoSaid : Prop := fnExactBestCodeUptoRow.holds Try.pinned (OpenSpec.upto fnExactBestCodeSpec)

end Rows
end Go.Proofs.Ytpnebnjpeiieaaa
