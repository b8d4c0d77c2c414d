/- Contracts of MoveOn, of costs and gates of a motion and a contact, on both sides. -/
import Derived.Test.YtlahgdhofakinaaGtA
namespace Go.Proofs.Ytlahgdhofakinaa
open Go.ChangeShapes Go.WideShapes Go.ChangeAt Go.RowKit Go.Shelf Num
set_option linter.unusedVariables false
set_option linter.unusedSimpArgs false

theorem ret_mv {T : (Int × Int × Int × Int × Int) × Int} {a b c d k r : Int} (h : T = ((a, b, c, d, k), r)) : Ending.returned (.tuple #[.agg #[.int .i64 a, .int .i64 b, .int .i64 c, .int .i64 d, .int .i64 k], .int .i64 r]) = .returned (.tuple #[.agg #[.int .i64 T.1.1, .int .i64 T.1.2.1, .int .i64 T.1.2.2.1, .int .i64 T.1.2.2.2.1, .int .i64 T.1.2.2.2.2], .int .i64 T.2]) := by subst h; rfl

end Go.Proofs.Ytlahgdhofakinaa
