/- Contracts of the greatest common divisor, the program's and the model's. -/
import Derived.Test.YtcaekheghjnipabDoorQuot
import Derived.Test.YtcaekheghjnipabDoorNumMath
import Derived.Deep.QuietTactic
import Derived.BigQuiet
import Derived.Test.YtcaekheghjnipabDoorRatMath
import Derived.Below
import Derived.LoopTactic
import Derived.WalkMore
import Derived.Deep.LoopGhost
import Derived.WalkSmall
namespace Go.Proofs.YtcaekheghjnipabDoor
open Go.ChangeShapes Go.WideShapes Go.ChangeAt Go.RowKit Num
set_option linter.unusedVariables false

end Go.Proofs.YtcaekheghjnipabDoor
