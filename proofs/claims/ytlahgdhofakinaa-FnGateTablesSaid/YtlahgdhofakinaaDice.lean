/- Contracts of the laws' own dice: dice are a block of their own; a throw moves them on, writes nothing else, and hands back a number of its range. -/
import Derived.Test.YtlahgdhofakinaaDrw
import Derived.LoopTactic
import Derived.Deep.QuietTactic
import Derived.BigQuiet
import Derived.Laws.Rows
import Derived.Outline
import Derived.Laws.Bits64b
namespace Go.Proofs.Ytlahgdhofakinaa
open Go.ChangeShapes Go.WideShapes Go.ChangeAt Go.RowKit
set_option linter.unusedVariables false
theorem and24 {q : Int} (h0 : 0 ≤ q) (h1 : q < 18446744073709551616) : 0 ≤ bits BinOp.and IntKind.u64 (q / 8589934592) 16777215 ∧ bits BinOp.and IntKind.u64 (q / 8589934592) 16777215 ≤ 16777215 := by
  obtain ⟨n, rfl⟩ := Int.eq_ofNat_of_zero_le h0
  have e : ((n : Int) / 8589934592) = ((n / 8589934592 : Nat) : Int) := by omega
  rw [e, show (16777215 : Int) = ((16777215 : Nat) : Int) from rfl, bits_and_u64_nat _ _ (by omega) (by omega)]
  have : n / 8589934592 &&& 16777215 ≤ 16777215 := Nat.and_le_right
  omega
theorem wrapu_in (x : Int) : 0 ≤ IntKind.u64.wrap x ∧ IntKind.u64.wrap x < 18446744073709551616 := by rw [IntKind.wrap_u64]; omega
end Go.Proofs.Ytlahgdhofakinaa
