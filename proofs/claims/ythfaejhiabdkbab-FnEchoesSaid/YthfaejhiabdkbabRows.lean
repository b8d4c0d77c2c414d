/-
  No cell of these rows narrows 'for every input' (looked for: loops, veiled, ifaces, maps, wideKeys, modest, calm, conditions, laid).
  DERIVED. THE GIVEN ROWS OF THIS SEAT. 4 by the template 'for every input the law returns true; each argument reads behind the call as it read before'; 0 by the template 'total and deterministic' (their statements: YthfaejhiabdkbabTotals.lean).
  GIVEN WITH THE SEED: the statements are not yours to turn. If you find one false, say at which input.
  Laid BY PROGRAM, IN A SANDBOX (cutbox-rows.mjs): the forced cells as the released guide's own fill.sh prints them over the translation e4bab01812559d3a… (all of the seat's roots in one cut). By AI agents, Wed Nov 11 2026. No macro, syntax, notation, axiom, sorry.
-/
import Derived.Test.YthfaejhiabdkbabChecked
import GoSem.Claim
import GoSem.ClaimJoined
import GoSem.ClaimMapViews
import Derived.JoinedTies
import Derived.KernelRfl
namespace Go.Proofs.Ythfaejhiabdkbab
/- THE CELL 'sum', in the pinned program and in every row, IS THE sha256 OF THE DUMP (.gsa) THAT YthfaejhiabdkbabProg.lean LOADS. Nothing in Lean hashes anything: it is a label: what it is worth is what the hold of that sum in a sandbox is worth. -/
noncomputable def Try.pinned : Pinned := { name := "ythfaejhiabdkbab", sum := "e4bab01812559d3a3a075297be16e3859831bc3620861e9dc6a0ead3949a2168", checked := Try.checked }
namespace Rows
def none {H : Type} : Left H := { results := [], args := [] }

/-- 'laws.FnExactNearestQuotient': WHATEVER THE INPUT: true; the input reads as it did. -/
def fnExactNearestQuotientSpec : ChangeSpec := { name := "fnExactNearestQuotient", fn := fun _ => fun
  | [d1, d2] => { results := [.lit (.bool true)], args := [d1, d2] }
  | _ => none }
def fnExactNearestQuotientRow : OpenClaim := { program := "ythfaejhiabdkbab", sum := "e4bab01812559d3a3a075297be16e3859831bc3620861e9dc6a0ead3949a2168", func := "loop.example/g00915/laws.FnExactNearestQuotient", spec := "fnExactNearestQuotient", apart := false }
def FnExactNearestQuotientSaid : Prop := fnExactNearestQuotientRow.holds Try.pinned (OpenSpec.ofChange fnExactNearestQuotientSpec)

/-- ITS FALSE NEIGHBOUR: 'it returns false'. Refute it at one input. -/
def fnExactNearestQuotientWrong : ChangeSpec := { name := "fnExactNearestQuotient", fn := fun _ => fun
  | [d1, d2] => { results := [.lit (.bool false)], args := [d1, d2] }
  | _ => none }
def FnExactNearestQuotientWrongFalsely : Prop := fnExactNearestQuotientRow.holds Try.pinned (OpenSpec.ofChange fnExactNearestQuotientWrong)

/-- 'laws.FnQuotients': WHATEVER THE INPUT: true; the input reads as it did. -/
def fnQuotientsSpec : ChangeSpec := { name := "fnQuotients", fn := fun _ => fun
  | [d] => { results := [.lit (.bool true)], args := [d] }
  | _ => none }
def fnQuotientsRow : OpenClaim := { program := "ythfaejhiabdkbab", sum := "e4bab01812559d3a3a075297be16e3859831bc3620861e9dc6a0ead3949a2168", func := "loop.example/g00915/laws.FnQuotients", spec := "fnQuotients", apart := false }
def FnQuotientsSaid : Prop := fnQuotientsRow.holds Try.pinned (OpenSpec.ofChange fnQuotientsSpec)

/-- ITS FALSE NEIGHBOUR: 'it returns false'. Refute it at one input. -/
def fnQuotientsWrong : ChangeSpec := { name := "fnQuotients", fn := fun _ => fun
  | [d] => { results := [.lit (.bool false)], args := [d] }
  | _ => none }
def FnQuotientsWrongFalsely : Prop := fnQuotientsRow.holds Try.pinned (OpenSpec.ofChange fnQuotientsWrong)

/-- 'laws.FnExactFindEchoes': WHATEVER THE INPUT: true; the input reads as it did. -/
def fnExactFindEchoesSpec : ChangeSpec := { name := "fnExactFindEchoes", fn := fun _ => fun
  | [d1, d2, d3, d4] => { results := [.lit (.bool true)], args := [d1, d2, d3, d4] }
  | _ => none }
def fnExactFindEchoesRow : OpenClaim := { program := "ythfaejhiabdkbab", sum := "e4bab01812559d3a3a075297be16e3859831bc3620861e9dc6a0ead3949a2168", func := "loop.example/g00915/laws.FnExactFindEchoes", spec := "fnExactFindEchoes", unfollowed := true, recurses := true, apart := false }
def FnExactFindEchoesSaid : Prop := fnExactFindEchoesRow.holds Try.pinned (OpenSpec.ofChange fnExactFindEchoesSpec)

/-- ITS FALSE NEIGHBOUR: 'it returns false'. Refute it at one input. -/
def fnExactFindEchoesWrong : ChangeSpec := { name := "fnExactFindEchoes", fn := fun _ => fun
  | [d1, d2, d3, d4] => { results := [.lit (.bool false)], args := [d1, d2, d3, d4] }
  | _ => none }
def FnExactFindEchoesWrongFalsely : Prop := fnExactFindEchoesRow.holds Try.pinned (OpenSpec.ofChange fnExactFindEchoesWrong)

/-- 'laws.FnEchoes': WHATEVER THE INPUT: true; the input reads as it did. -/
def fnEchoesSpec : ChangeSpec := { name := "fnEchoes", fn := fun _ => fun
  | [d] => { results := [.lit (.bool true)], args := [d] }
  | _ => none }
def fnEchoesRow : OpenClaim := { program := "ythfaejhiabdkbab", sum := "e4bab01812559d3a3a075297be16e3859831bc3620861e9dc6a0ead3949a2168", func := "loop.example/g00915/laws.FnEchoes", spec := "fnEchoes", unfollowed := true, recurses := true, apart := false }
def FnEchoesSaid : Prop := fnEchoesRow.holds Try.pinned (OpenSpec.ofChange fnEchoesSpec)

/-- ITS FALSE NEIGHBOUR: 'it returns false'. Refute it at one input. -/
def fnEchoesWrong : ChangeSpec := { name := "fnEchoes", fn := fun _ => fun
  | [d] => { results := [.lit (.bool false)], args := [d] }
  | _ => none }
def FnEchoesWrongFalsely : Prop := fnEchoesRow.holds Try.pinned (OpenSpec.ofChange fnEchoesWrong)

/- THE SECOND FORM. 'bulk': how many values and letters a reading holds, each counted each time it is reached (what is shared counts as often as it is met; a slice's spare places count too). A statement '..UptoSaid' is the law's where the arguments, and the package variables that the reading takes, are together of bulk at most 1048576: NARROWER than '..Said'. Prove '..Said' where nothing that the law and all that it calls make is longer than what came in: it says more and counts as full. Else prove '..UptoSaid'. A law counts once. -/
mutual
def uptoBulk {H : Type} : DataW H → Nat
  | .lit (.string bytes) => bytes.length + 1
  | .lit _ => 1
  | .nil => 1
  | .ptr d => uptoBulk d + 1
  | .slice elems spare => uptoBulkAll elems + uptoBulkAll spare + 1
  | .agg parts => uptoBulkAll parts + 1
  | .iface _ d => uptoBulk d + 1
  | .map entries => uptoBulkEntries entries + 1
  | .held _ => 1
def uptoBulkAll {H : Type} : List (DataW H) → Nat
  | [] => 0
  | d :: r => uptoBulk d + uptoBulkAll r
def uptoBulkEntries {H : Type} : List (Lit × DataW H) → Nat
  | [] => 0
  | x :: r => uptoBulkEntry x + uptoBulkEntries r
def uptoBulkEntry {H : Type} : Lit × DataW H → Nat
  | (.string bytes, d) => bytes.length + uptoBulk d + 1
  | (_, d) => uptoBulk d + 1
 end
def uptoSmall : (H : Type) → List (DataW H) → Bool := fun _ ds => decide (uptoBulkAll ds ≤ 1048576)
def OpenSpec.upto (s : _root_.Go.ChangeSpec) : _root_.Go.OpenSpec := { _root_.Go.OpenSpec.ofChange s with cond := some uptoSmall }

/-- 'laws.FnExactNearestQuotient', WHERE WHAT IT READS IS OF BULK AT MOST 1048576: true; the input reads as it did. -/
def fnExactNearestQuotientUptoRow : OpenClaim := { program := "ythfaejhiabdkbab", sum := "e4bab01812559d3a3a075297be16e3859831bc3620861e9dc6a0ead3949a2168", func := "loop.example/g00915/laws.FnExactNearestQuotient", spec := "fnExactNearestQuotient", apart := false, narrowed := true }
def FnExactNearestQuotientUptoSaid : Prop := fnExactNearestQuotientUptoRow.holds Try.pinned (OpenSpec.upto fnExactNearestQuotientSpec)

/-- 'laws.FnQuotients', WHERE WHAT IT READS IS OF BULK AT MOST 1048576: true; the input reads as it did. -/
def fnQuotientsUptoRow : OpenClaim := { program := "ythfaejhiabdkbab", sum := "e4bab01812559d3a3a075297be16e3859831bc3620861e9dc6a0ead3949a2168", func := "loop.example/g00915/laws.FnQuotients", spec := "fnQuotients", apart := false, narrowed := true }
def FnQuotientsUptoSaid : Prop := fnQuotientsUptoRow.holds Try.pinned (OpenSpec.upto fnQuotientsSpec)

/-- 'laws.FnExactFindEchoes', WHERE WHAT IT READS IS OF BULK AT MOST 1048576: true; the input reads as it did. -/
def fnExactFindEchoesUptoRow : OpenClaim := { program := "ythfaejhiabdkbab", sum := "e4bab01812559d3a3a075297be16e3859831bc3620861e9dc6a0ead3949a2168", func := "loop.example/g00915/laws.FnExactFindEchoes", spec := "fnExactFindEchoes", unfollowed := true, recurses := true, apart := false, narrowed := true }
def FnExactFindEchoesUptoSaid : Prop := fnExactFindEchoesUptoRow.holds Try.pinned (OpenSpec.upto fnExactFindEchoesSpec)

/-- 'laws.FnEchoes', WHERE WHAT IT READS IS OF BULK AT MOST 1048576: true; the input reads as it did. -/
def fnEchoesUptoRow : OpenClaim := { program := "ythfaejhiabdkbab", sum := "e4bab01812559d3a3a075297be16e3859831bc3620861e9dc6a0ead3949a2168", func := "loop.example/g00915/laws.FnEchoes", spec := "fnEchoes", unfollowed := true, recurses := true, apart := false, narrowed := true }
def FnEchoesUptoSaid : Prop := fnEchoesUptoRow.holds Try.pinned (OpenSpec.upto fnEchoesSpec)

end Rows
end Go.Proofs.Ythfaejhiabdkbab
