/- Contracts of the program's and of the model's integer helpers: values, codes of a division, quotients rounded down and up. -/
import Derived.Test.YtcaekheghjnipabDoorRows
import Derived.Test.YtcaekheghjnipabDoorNumB
import Derived.Test.YtcaekheghjnipabDoorNumMath
import Derived.WalkKit
import Derived.ProofKit
import Derived.OpenShut
import Derived.Outline
import Derived.Lib.Hide
namespace Go.Proofs.YtcaekheghjnipabDoor
open Go.ChangeShapes Go.WideShapes Go.ChangeAt Go.RowKit Num
set_option linter.unusedVariables false

/-- the code of a division: 2 beside a number that is no value, 5 by 0, else 0 -/
def dcode (a b : Int) : Int := if valB a && valB b then (if b == 0 then 5 else 0) else 2
theorem dcode_0 {a b : Int} (h : dcode a b = 0) : valB a = true ∧ valB b = true ∧ b ≠ 0 := by
  unfold dcode at h; split at h
  · rename_i g; simp at g; split at h <;> simp_all
  · simp at h

/-- the quotient rounded up -/
def cdiv (a b : Int) : Int := -((-a).fdiv b)
end Go.Proofs.YtcaekheghjnipabDoor
