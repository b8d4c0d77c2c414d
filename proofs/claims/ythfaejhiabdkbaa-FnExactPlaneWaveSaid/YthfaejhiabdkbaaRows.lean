/-
  No cell of these rows narrows 'for every input' (looked for: loops, veiled, ifaces, maps, wideKeys, modest, calm, conditions, laid).
  DERIVED. THE GIVEN ROWS OF THIS SEAT. 6 by the template 'for every input the law returns true; each argument reads behind the call as it read before'; 0 by the template 'total and deterministic' (their statements: YthfaejhiabdkbaaTotals.lean).
  GIVEN WITH THE SEED: the statements are not yours to turn. If you find one false, say at which input.
  Laid BY PROGRAM, IN A SANDBOX (cutbox-rows.mjs): the forced cells as the released guide's own fill.sh prints them over the translation 25249c06045054da… (all of the seat's roots in one cut). By AI agents, Wed Nov 11 2026. No macro, syntax, notation, axiom, sorry.
-/
import Derived.Test.YthfaejhiabdkbaaChecked
import GoSem.Claim
import GoSem.ClaimJoined
import GoSem.ClaimMapViews
import Derived.JoinedTies
import Derived.KernelRfl
namespace Go.Proofs.Ythfaejhiabdkbaa
/- THE CELL 'sum', in the pinned program and in every row, IS THE sha256 OF THE DUMP (.gsa) THAT YthfaejhiabdkbaaProg.lean LOADS. Nothing in Lean hashes anything: it is a label: what it is worth is what the hold of that sum in a sandbox is worth. -/
noncomputable def Try.pinned : Pinned := { name := "ythfaejhiabdkbaa", sum := "25249c06045054da6d38367a2bd2c90a44ac86f4417d7f69a28603844785de0a", checked := Try.checked }
namespace Rows
def none {H : Type} : Left H := { results := [], args := [] }

/-- 'laws.FnExactIsArray': WHATEVER THE INPUT: true; the input reads as it did. -/
def fnExactIsArraySpec : ChangeSpec := { name := "fnExactIsArray", fn := fun _ => fun
  | [d] => { results := [.lit (.bool true)], args := [d] }
  | _ => none }
def fnExactIsArrayRow : OpenClaim := { program := "ythfaejhiabdkbaa", sum := "25249c06045054da6d38367a2bd2c90a44ac86f4417d7f69a28603844785de0a", func := "loop.example/g00915/laws.FnExactIsArray", spec := "fnExactIsArray", apart := false }
def FnExactIsArraySaid : Prop := fnExactIsArrayRow.holds Try.pinned (OpenSpec.ofChange fnExactIsArraySpec)

/-- ITS FALSE NEIGHBOUR: 'it returns false'. Refute it at one input. -/
def fnExactIsArrayWrong : ChangeSpec := { name := "fnExactIsArray", fn := fun _ => fun
  | [d] => { results := [.lit (.bool false)], args := [d] }
  | _ => none }
def FnExactIsArrayWrongFalsely : Prop := fnExactIsArrayRow.holds Try.pinned (OpenSpec.ofChange fnExactIsArrayWrong)

/-- 'laws.FnExactDelaysOf': WHATEVER THE INPUT: true; the input reads as it did. -/
def fnExactDelaysOfSpec : ChangeSpec := { name := "fnExactDelaysOf", fn := fun _ => fun
  | [d1, d2, d3, d4] => { results := [.lit (.bool true)], args := [d1, d2, d3, d4] }
  | _ => none }
def fnExactDelaysOfRow : OpenClaim := { program := "ythfaejhiabdkbaa", sum := "25249c06045054da6d38367a2bd2c90a44ac86f4417d7f69a28603844785de0a", func := "loop.example/g00915/laws.FnExactDelaysOf", spec := "fnExactDelaysOf", apart := false }
def FnExactDelaysOfSaid : Prop := fnExactDelaysOfRow.holds Try.pinned (OpenSpec.ofChange fnExactDelaysOfSpec)

/-- ITS FALSE NEIGHBOUR: 'it returns false'. Refute it at one input. -/
def fnExactDelaysOfWrong : ChangeSpec := { name := "fnExactDelaysOf", fn := fun _ => fun
  | [d1, d2, d3, d4] => { results := [.lit (.bool false)], args := [d1, d2, d3, d4] }
  | _ => none }
def FnExactDelaysOfWrongFalsely : Prop := fnExactDelaysOfRow.holds Try.pinned (OpenSpec.ofChange fnExactDelaysOfWrong)

/-- 'laws.FnExactDelayErrors': WHATEVER THE INPUT: true; the input reads as it did. -/
def fnExactDelayErrorsSpec : ChangeSpec := { name := "fnExactDelayErrors", fn := fun _ => fun
  | [d1, d2, d3, d4] => { results := [.lit (.bool true)], args := [d1, d2, d3, d4] }
  | _ => none }
def fnExactDelayErrorsRow : OpenClaim := { program := "ythfaejhiabdkbaa", sum := "25249c06045054da6d38367a2bd2c90a44ac86f4417d7f69a28603844785de0a", func := "loop.example/g00915/laws.FnExactDelayErrors", spec := "fnExactDelayErrors", apart := false }
def FnExactDelayErrorsSaid : Prop := fnExactDelayErrorsRow.holds Try.pinned (OpenSpec.ofChange fnExactDelayErrorsSpec)

/-- ITS FALSE NEIGHBOUR: 'it returns false'. Refute it at one input. -/
def fnExactDelayErrorsWrong : ChangeSpec := { name := "fnExactDelayErrors", fn := fun _ => fun
  | [d1, d2, d3, d4] => { results := [.lit (.bool false)], args := [d1, d2, d3, d4] }
  | _ => none }
def FnExactDelayErrorsWrongFalsely : Prop := fnExactDelayErrorsRow.holds Try.pinned (OpenSpec.ofChange fnExactDelayErrorsWrong)

/-- 'laws.FnExactPlaneWave': WHATEVER THE INPUT: true; the input reads as it did. -/
def fnExactPlaneWaveSpec : ChangeSpec := { name := "fnExactPlaneWave", fn := fun _ => fun
  | [d1, d2, d3, d4, d5, d6, d7] => { results := [.lit (.bool true)], args := [d1, d2, d3, d4, d5, d6, d7] }
  | _ => none }
def fnExactPlaneWaveRow : OpenClaim := { program := "ythfaejhiabdkbaa", sum := "25249c06045054da6d38367a2bd2c90a44ac86f4417d7f69a28603844785de0a", func := "loop.example/g00915/laws.FnExactPlaneWave", spec := "fnExactPlaneWave", unfollowed := true, recurses := true, apart := false }
def FnExactPlaneWaveSaid : Prop := fnExactPlaneWaveRow.holds Try.pinned (OpenSpec.ofChange fnExactPlaneWaveSpec)

/-- ITS FALSE NEIGHBOUR: 'it returns false'. Refute it at one input. -/
def fnExactPlaneWaveWrong : ChangeSpec := { name := "fnExactPlaneWave", fn := fun _ => fun
  | [d1, d2, d3, d4, d5, d6, d7] => { results := [.lit (.bool false)], args := [d1, d2, d3, d4, d5, d6, d7] }
  | _ => none }
def FnExactPlaneWaveWrongFalsely : Prop := fnExactPlaneWaveRow.holds Try.pinned (OpenSpec.ofChange fnExactPlaneWaveWrong)

/-- 'laws.FnExactAreChannels': WHATEVER THE INPUT: true; the input reads as it did. -/
def fnExactAreChannelsSpec : ChangeSpec := { name := "fnExactAreChannels", fn := fun _ => fun
  | [d] => { results := [.lit (.bool true)], args := [d] }
  | _ => none }
def fnExactAreChannelsRow : OpenClaim := { program := "ythfaejhiabdkbaa", sum := "25249c06045054da6d38367a2bd2c90a44ac86f4417d7f69a28603844785de0a", func := "loop.example/g00915/laws.FnExactAreChannels", spec := "fnExactAreChannels", unfollowed := true, recurses := true, apart := false }
def FnExactAreChannelsSaid : Prop := fnExactAreChannelsRow.holds Try.pinned (OpenSpec.ofChange fnExactAreChannelsSpec)

/-- ITS FALSE NEIGHBOUR: 'it returns false'. Refute it at one input. -/
def fnExactAreChannelsWrong : ChangeSpec := { name := "fnExactAreChannels", fn := fun _ => fun
  | [d] => { results := [.lit (.bool false)], args := [d] }
  | _ => none }
def FnExactAreChannelsWrongFalsely : Prop := fnExactAreChannelsRow.holds Try.pinned (OpenSpec.ofChange fnExactAreChannelsWrong)

/-- 'laws.FnDelays': WHATEVER THE INPUT: true; the input reads as it did. -/
def fnDelaysSpec : ChangeSpec := { name := "fnDelays", fn := fun _ => fun
  | [d] => { results := [.lit (.bool true)], args := [d] }
  | _ => none }
def fnDelaysRow : OpenClaim := { program := "ythfaejhiabdkbaa", sum := "25249c06045054da6d38367a2bd2c90a44ac86f4417d7f69a28603844785de0a", func := "loop.example/g00915/laws.FnDelays", spec := "fnDelays", apart := false }
def FnDelaysSaid : Prop := fnDelaysRow.holds Try.pinned (OpenSpec.ofChange fnDelaysSpec)

/-- ITS FALSE NEIGHBOUR: 'it returns false'. Refute it at one input. -/
def fnDelaysWrong : ChangeSpec := { name := "fnDelays", fn := fun _ => fun
  | [d] => { results := [.lit (.bool false)], args := [d] }
  | _ => none }
def FnDelaysWrongFalsely : Prop := fnDelaysRow.holds Try.pinned (OpenSpec.ofChange fnDelaysWrong)

/- THE SECOND FORM. 'bulk': how many values and letters a reading holds, each counted each time it is reached (what is shared counts as often as it is met; a slice's spare places count too). A statement '..UptoSaid' is the law's where the arguments, and the package variables that the reading takes, are together of bulk at most 1048576: NARROWER than '..Said'. Prove '..Said' where nothing that the law and all that it calls make is longer than what came in: it says more and counts as full. Else prove '..UptoSaid'. A law counts once. -/
mutual
def uptoBulk {H : Type} : DataW H → Nat
  | .lit (.string bytes) => bytes.length + 1
  | .lit _ => 1
  | .nil => 1
  | .ptr d => uptoBulk d + 1
  | .slice elems spare => uptoBulkAll elems + uptoBulkAll spare + 1
  | .agg parts => uptoBulkAll parts + 1
  | .iface _ d => uptoBulk d + 1
  | .map entries => uptoBulkEntries entries + 1
  | .held _ => 1
def uptoBulkAll {H : Type} : List (DataW H) → Nat
  | [] => 0
  | d :: r => uptoBulk d + uptoBulkAll r
def uptoBulkEntries {H : Type} : List (Lit × DataW H) → Nat
  | [] => 0
  | x :: r => uptoBulkEntry x + uptoBulkEntries r
def uptoBulkEntry {H : Type} : Lit × DataW H → Nat
  | (.string bytes, d) => bytes.length + uptoBulk d + 1
  | (_, d) => uptoBulk d + 1
 end
def uptoSmall : (H : Type) → List (DataW H) → Bool := fun _ ds => decide (uptoBulkAll ds ≤ 1048576)
def OpenSpec.upto (s : _root_.Go.ChangeSpec) : _root_.Go.OpenSpec := { _root_.Go.OpenSpec.ofChange s with cond := some uptoSmall }

/-- 'laws.FnExactIsArray', WHERE WHAT IT READS IS OF BULK AT MOST 1048576: true; the input reads as it did. -/
def fnExactIsArrayUptoRow : OpenClaim := { program := "ythfaejhiabdkbaa", sum := "25249c06045054da6d38367a2bd2c90a44ac86f4417d7f69a28603844785de0a", func := "loop.example/g00915/laws.FnExactIsArray", spec := "fnExactIsArray", apart := false, narrowed := true }
def FnExactIsArrayUptoSaid : Prop := fnExactIsArrayUptoRow.holds Try.pinned (OpenSpec.upto fnExactIsArraySpec)

/-- 'laws.FnExactDelaysOf', WHERE WHAT IT READS IS OF BULK AT MOST 1048576: true; the input reads as it did. -/
def fnExactDelaysOfUptoRow : OpenClaim := { program := "ythfaejhiabdkbaa", sum := "25249c06045054da6d38367a2bd2c90a44ac86f4417d7f69a28603844785de0a", func := "loop.example/g00915/laws.FnExactDelaysOf", spec := "fnExactDelaysOf", apart := false, narrowed := true }
def FnExactDelaysOfUptoSaid : Prop := fnExactDelaysOfUptoRow.holds Try.pinned (OpenSpec.upto fnExactDelaysOfSpec)

/-- 'laws.FnExactDelayErrors', WHERE WHAT IT READS IS OF BULK AT MOST 1048576: true; the input reads as it did. -/
def fnExactDelayErrorsUptoRow : OpenClaim := { program := "ythfaejhiabdkbaa", sum := "25249c06045054da6d38367a2bd2c90a44ac86f4417d7f69a28603844785de0a", func := "loop.example/g00915/laws.FnExactDelayErrors", spec := "fnExactDelayErrors", apart := false, narrowed := true }
def FnExactDelayErrorsUptoSaid : Prop := fnExactDelayErrorsUptoRow.holds Try.pinned (OpenSpec.upto fnExactDelayErrorsSpec)

/-- 'laws.FnExactPlaneWave', WHERE WHAT IT READS IS OF BULK AT MOST 1048576: true; the input reads as it did. -/
def fnExactPlaneWaveUptoRow : OpenClaim := { program := "ythfaejhiabdkbaa", sum := "25249c06045054da6d38367a2bd2c90a44ac86f4417d7f69a28603844785de0a", func := "loop.example/g00915/laws.FnExactPlaneWave", spec := "fnExactPlaneWave", unfollowed := true, recurses := true, apart := false, narrowed := true }
def FnExactPlaneWaveUptoSaid : Prop := fnExactPlaneWaveUptoRow.holds Try.pinned (OpenSpec.upto fnExactPlaneWaveSpec)

/-- 'laws.FnExactAreChannels', WHERE WHAT IT READS IS OF BULK AT MOST 1048576: true; the input reads as it did. -/
def fnExactAreChannelsUptoRow : OpenClaim := { program := "ythfaejhiabdkbaa", sum := "25249c06045054da6d38367a2bd2c90a44ac86f4417d7f69a28603844785de0a", func := "loop.example/g00915/laws.FnExactAreChannels", spec := "fnExactAreChannels", unfollowed := true, recurses := true, apart := false, narrowed := true }
def FnExactAreChannelsUptoSaid : Prop := fnExactAreChannelsUptoRow.holds Try.pinned (OpenSpec.upto fnExactAreChannelsSpec)

/-- 'laws.FnDelays', WHERE WHAT IT READS IS OF BULK AT MOST 1048576: true; the input reads as it did. -/
def fnDelaysUptoRow : OpenClaim := { program := "ythfaejhiabdkbaa", sum := "25249c06045054da6d38367a2bd2c90a44ac86f4417d7f69a28603844785de0a", func := "loop.example/g00915/laws.FnDelays", spec := "fnDelays", apart := false, narrowed := true }
def FnDelaysUptoSaid : Prop := fnDelaysUptoRow.holds Try.pinned (OpenSpec.upto fnDelaysSpec)

end Rows
end Go.Proofs.Ythfaejhiabdkbaa
