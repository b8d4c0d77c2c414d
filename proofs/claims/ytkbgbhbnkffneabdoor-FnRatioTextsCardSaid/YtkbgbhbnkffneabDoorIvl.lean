/- Contracts of the small functions on intervals, the program's and the model's: valid intervals, numbers in them, results within the values; the laws' own copies of an interval and their comparison. -/
import Derived.Test.YtkbgbhbnkffneabDoorNum
import Derived.Below
namespace Go.Proofs.YtkbgbhbnkffneabDoor
open Go.ChangeShapes Go.WideShapes Go.ChangeAt Go.RowKit Num
set_option linter.unusedVariables false

theorem mul_abs {a n : Int} {A N : Nat} (ha : a.natAbs ≤ A) (hn : n.natAbs ≤ N) : (a * n).natAbs ≤ A * N := by rw [Int.natAbs_mul]; exact Nat.mul_le_mul ha hn
/-- the interval from a to b is valid -/
def vldB (a b : Int) : Bool := valB a && valB b && decide (a ≤ b)
/-- x lies in the interval from a to b -/
def hasB (a b x : Int) : Bool := decide (a ≤ x) && decide (x ≤ b)

end Go.Proofs.YtkbgbhbnkffneabDoor
