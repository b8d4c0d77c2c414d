/- Contracts of CommonDivisor, the program's and the model's, and the walk of its exact law. -/
import Derived.Test.YtaamfgpdfakakaaNear
import Derived.Below
import Derived.LoopTactic
import Derived.WalkMore
import Derived.Deep.LoopGhost
import Derived.WalkSmall
namespace Go.Proofs.Ytaamfgpdfakakaa
open Go.ChangeShapes Go.WideShapes Go.ChangeAt Go.RowKit Num
set_option linter.unusedVariables false
/-- the greatest common divisor -/
def gc (a b : Int) : Int := (Int.gcd a b : Int)
theorem gc_step (a b : Int) : gc b (a.tmod b) = gc a b := by
  unfold gc Int.gcd
  rw [Int.natAbs_tmod, Nat.gcd_comm b.natAbs, ← Nat.gcd_rec, Nat.gcd_comm]
theorem gc_zero (a : Int) : gc a 0 = (a.natAbs : Int) := by unfold gc Int.gcd; simp
theorem gc_abs (a b : Int) : gc (a.natAbs : Int) (b.natAbs : Int) = gc a b := by unfold gc Int.gcd; simp

def gcode (a b : Int) : Int := if valB a && valB b then 0 else 2
def gval (a b : Int) : Int := if valB a && valB b then gc a b else 0

end Go.Proofs.Ytaamfgpdfakakaa
