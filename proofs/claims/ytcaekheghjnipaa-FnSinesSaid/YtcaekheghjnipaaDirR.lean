/- Results of four numbers. -/
import Derived.Test.YtcaekheghjnipaaDir
namespace Go.Proofs.Ytcaekheghjnipaa
open Go.ChangeShapes Go.WideShapes Go.ChangeAt Go.RowKit Num
set_option linter.unusedVariables false
/-- a result of four numbers, of which three are a struct -/
theorem res4 {t : Int × Int × Int × Int} {a b c d : Int} (h : t = (a, b, c, d)) : Ending.returned (.tuple #[.agg #[.int .i64 a, .int .i64 b, .int .i64 c], .int .i64 d]) = .returned (.tuple #[.agg #[.int .i64 t.1, .int .i64 t.2.1, .int .i64 t.2.2.1], .int .i64 t.2.2.2]) := by subst h; rfl
/-- the mirrored direction, and the code -/
def miT (c s h : Int) : Int × Int × Int × Int := if dirB c s h then (c, -s, h, 0) else (0, 0, 0, 1)
end Go.Proofs.Ytcaekheghjnipaa
