/- Contracts of the common part of two intervals, of results within the values, and of a number in an interval, the program's and the model's. -/
import Derived.Test.YtcaekheghjnipabDoorIvl
import Derived.Outline
import Derived.Deep.QuietTactic
import Derived.BigQuiet
import Derived.WalkSpells
import Derived.WalkLawsBesides
namespace Go.Proofs.YtcaekheghjnipabDoor
open Go.ChangeShapes Go.WideShapes Go.ChangeAt Go.RowKit Num
set_option linter.unusedVariables false

/-- an interval and a code, as a result -/
def resT (T : Int × Int × Int) : Value := .tuple #[.agg #[.int .i64 T.1, .int .i64 T.2.1], .int .i64 T.2.2]
theorem resT_of {T : Int × Int × Int} {l h c : Int} (e : T = (l, h, c)) : Ending.returned (.tuple #[.agg #[.int .i64 l, .int .i64 h], .int .i64 c]) = .returned (.tuple #[.agg #[.int .i64 T.1, .int .i64 T.2.1], .int .i64 T.2.2]) := by rw [e]

/-- the interval from l to h, if both bounds are values -/
def within (l h : Int) : Int × Int × Int := if valB l && valB h then (l, h, 0) else (0, 0, 2)
/-- the common part -/
def meetT (a b c d : Int) : Int × Int × Int := if vldB a b && vldB c d then (if max a c ≤ min b d then (max a c, min b d, 0) else (0, 0, 4)) else (0, 0, 1)

/-- the number x lies in the valid interval from a to b -/
def hnB (a b x : Int) : Bool := vldB a b && hasB a b x
theorem inB_has (a b x : Int) : inB x a b = hasB a b x := by
  unfold inB hasB
  by_cases h : a ≤ x <;> by_cases g : x ≤ b <;> simp [h, g]
end Go.Proofs.YtcaekheghjnipabDoor
