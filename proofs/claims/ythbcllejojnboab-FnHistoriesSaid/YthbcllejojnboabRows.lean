/-
  No cell of these rows narrows 'for every input' (looked for: loops, veiled, ifaces, maps, wideKeys, modest, calm, conditions, laid).
  DERIVED. THE GIVEN ROWS OF THIS SEAT. 3 by the template 'for every input the law returns true; each argument reads behind the call as it read before'; 0 by the template 'total and deterministic' (their statements: YthbcllejojnboabTotals.lean).
  GIVEN WITH THE SEED: the statements are not yours to turn. If you find one false, say at which input.
  Laid BY PROGRAM, IN A SANDBOX (cutbox-rows.mjs): the forced cells as the released guide's own fill.sh prints them over the translation 326f68558ea9eb1d… (all of the seat's roots in one cut). By AI agents, Wed Nov 11 2026. No macro, syntax, notation, axiom, sorry.
-/
import Derived.Test.YthbcllejojnboabChecked
import GoSem.Claim
import GoSem.ClaimJoined
import GoSem.ClaimMapViews
import Derived.JoinedTies
import Derived.KernelRfl
namespace Go.Proofs.Ythbcllejojnboab
/- THE CELL 'sum', in the pinned program and in every row, IS THE sha256 OF THE DUMP (.gsa) THAT YthbcllejojnboabProg.lean LOADS. Nothing in Lean hashes anything: it is a label: what it is worth is what the hold of that sum in a sandbox is worth. -/
noncomputable def Try.pinned : Pinned := { name := "ythbcllejojnboab", sum := "326f68558ea9eb1d07cc2055737f7f9351e4a11b7e23daa73209527f0ee2fa9c", checked := Try.checked }
namespace Rows
def none {H : Type} : Left H := { results := [], args := [] }

/-- 'laws.FnHistories': WHATEVER THE INPUT: true; the input reads as it did. -/
def fnHistoriesSpec : ChangeSpec := { name := "fnHistories", fn := fun _ => fun
  | [d] => { results := [.lit (.bool true)], args := [d] }
  | _ => none }
def fnHistoriesRow : OpenClaim := { program := "ythbcllejojnboab", sum := "326f68558ea9eb1d07cc2055737f7f9351e4a11b7e23daa73209527f0ee2fa9c", func := "loop.example/g00915/laws.FnHistories", spec := "fnHistories", inPlace := ["internal/bytealg.IndexByteString"], apart := false }
def FnHistoriesSaid : Prop := fnHistoriesRow.holds Try.pinned (OpenSpec.ofChange fnHistoriesSpec)

/-- ITS FALSE NEIGHBOUR: 'it returns false'. Refute it at one input. -/
def fnHistoriesWrong : ChangeSpec := { name := "fnHistories", fn := fun _ => fun
  | [d] => { results := [.lit (.bool false)], args := [d] }
  | _ => none }
def FnHistoriesWrongFalsely : Prop := fnHistoriesRow.holds Try.pinned (OpenSpec.ofChange fnHistoriesWrong)

/-- 'laws.FnExactHistoryText': WHATEVER THE INPUT: true; the input reads as it did. -/
def fnExactHistoryTextSpec : ChangeSpec := { name := "fnExactHistoryText", fn := fun _ => fun
  | [d] => { results := [.lit (.bool true)], args := [d] }
  | _ => none }
def fnExactHistoryTextRow : OpenClaim := { program := "ythbcllejojnboab", sum := "326f68558ea9eb1d07cc2055737f7f9351e4a11b7e23daa73209527f0ee2fa9c", func := "loop.example/g00915/laws.FnExactHistoryText", spec := "fnExactHistoryText", apart := false }
def FnExactHistoryTextSaid : Prop := fnExactHistoryTextRow.holds Try.pinned (OpenSpec.ofChange fnExactHistoryTextSpec)

/-- ITS FALSE NEIGHBOUR: 'it returns false'. Refute it at one input. -/
def fnExactHistoryTextWrong : ChangeSpec := { name := "fnExactHistoryText", fn := fun _ => fun
  | [d] => { results := [.lit (.bool false)], args := [d] }
  | _ => none }
def FnExactHistoryTextWrongFalsely : Prop := fnExactHistoryTextRow.holds Try.pinned (OpenSpec.ofChange fnExactHistoryTextWrong)

/-- 'laws.FnExactReadHistory': WHATEVER THE INPUT: true; the input reads as it did. -/
def fnExactReadHistorySpec : ChangeSpec := { name := "fnExactReadHistory", fn := fun _ => fun
  | [d] => { results := [.lit (.bool true)], args := [d] }
  | _ => none }
def fnExactReadHistoryRow : OpenClaim := { program := "ythbcllejojnboab", sum := "326f68558ea9eb1d07cc2055737f7f9351e4a11b7e23daa73209527f0ee2fa9c", func := "loop.example/g00915/laws.FnExactReadHistory", spec := "fnExactReadHistory", inPlace := ["internal/bytealg.IndexByteString"], apart := false }
def FnExactReadHistorySaid : Prop := fnExactReadHistoryRow.holds Try.pinned (OpenSpec.ofChange fnExactReadHistorySpec)

/-- ITS FALSE NEIGHBOUR: 'it returns false'. Refute it at one input. -/
def fnExactReadHistoryWrong : ChangeSpec := { name := "fnExactReadHistory", fn := fun _ => fun
  | [d] => { results := [.lit (.bool false)], args := [d] }
  | _ => none }
def FnExactReadHistoryWrongFalsely : Prop := fnExactReadHistoryRow.holds Try.pinned (OpenSpec.ofChange fnExactReadHistoryWrong)

/- THE SECOND FORM. 'bulk': how many values and letters a reading holds, each counted each time it is reached (what is shared counts as often as it is met; a slice's spare places count too). A statement '..UptoSaid' is the law's where the arguments, and the package variables that the reading takes, are together of bulk at most 1048576: NARROWER than '..Said'. Prove '..Said' where nothing that the law and all that it calls make is longer than what came in: it says more and counts as full. Else prove '..UptoSaid'. A law counts once. -/
mutual
def uptoBulk {H : Type} : DataW H → Nat
  | .lit (.string bytes) => bytes.length + 1
  | .lit _ => 1
  | .nil => 1
  | .ptr d => uptoBulk d + 1
  | .slice elems spare => uptoBulkAll elems + uptoBulkAll spare + 1
  | .agg parts => uptoBulkAll parts + 1
  | .iface _ d => uptoBulk d + 1
  | .map entries => uptoBulkEntries entries + 1
  | .held _ => 1
def uptoBulkAll {H : Type} : List (DataW H) → Nat
  | [] => 0
  | d :: r => uptoBulk d + uptoBulkAll r
def uptoBulkEntries {H : Type} : List (Lit × DataW H) → Nat
  | [] => 0
  | x :: r => uptoBulkEntry x + uptoBulkEntries r
def uptoBulkEntry {H : Type} : Lit × DataW H → Nat
  | (.string bytes, d) => bytes.length + uptoBulk d + 1
  | (_, d) => uptoBulk d + 1
 end
def uptoSmall : (H : Type) → List (DataW H) → Bool := fun _ ds => decide (uptoBulkAll ds ≤ 1048576)
def OpenSpec.upto (s : _root_.Go.ChangeSpec) : _root_.Go.OpenSpec := { _root_.Go.OpenSpec.ofChange s with cond := some uptoSmall }

/-- 'laws.FnHistories', WHERE WHAT IT READS IS OF BULK AT MOST 1048576: true; the input reads as it did. -/
def fnHistoriesUptoRow : OpenClaim := { program := "ythbcllejojnboab", sum := "326f68558ea9eb1d07cc2055737f7f9351e4a11b7e23daa73209527f0ee2fa9c", func := "loop.example/g00915/laws.FnHistories", spec := "fnHistories", inPlace := ["internal/bytealg.IndexByteString"], apart := false, narrowed := true }
def FnHistoriesUptoSaid : Prop := fnHistoriesUptoRow.holds Try.pinned (OpenSpec.upto fnHistoriesSpec)

/-- 'laws.FnExactHistoryText', WHERE WHAT IT READS IS OF BULK AT MOST 1048576: true; the input reads as it did. -/
def fnExactHistoryTextUptoRow : OpenClaim := { program := "ythbcllejojnboab", sum := "326f68558ea9eb1d07cc2055737f7f9351e4a11b7e23daa73209527f0ee2fa9c", func := "loop.example/g00915/laws.FnExactHistoryText", spec := "fnExactHistoryText", apart := false, narrowed := true }
def FnExactHistoryTextUptoSaid : Prop := fnExactHistoryTextUptoRow.holds Try.pinned (OpenSpec.upto fnExactHistoryTextSpec)

/-- 'laws.FnExactReadHistory', WHERE WHAT IT READS IS OF BULK AT MOST 1048576: true; the input reads as it did. -/
def fnExactReadHistoryUptoRow : OpenClaim := { program := "ythbcllejojnboab", sum := "326f68558ea9eb1d07cc2055737f7f9351e4a11b7e23daa73209527f0ee2fa9c", func := "loop.example/g00915/laws.FnExactReadHistory", spec := "fnExactReadHistory", inPlace := ["internal/bytealg.IndexByteString"], apart := false, narrowed := true }
def FnExactReadHistoryUptoSaid : Prop := fnExactReadHistoryUptoRow.holds Try.pinned (OpenSpec.upto fnExactReadHistorySpec)

end Rows
end Go.Proofs.Ythbcllejojnboab
