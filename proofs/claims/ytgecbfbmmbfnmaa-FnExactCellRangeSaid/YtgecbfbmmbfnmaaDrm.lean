/- The contract of the program's MakeDirection. The contract of the model's MakeDirection. -/
import Derived.Test.YtgecbfbmmbfnmaaDrc
namespace Go.Proofs.Ytgecbfbmmbfnmaa
open Go.ChangeShapes Go.WideShapes Go.ChangeAt Go.RowKit Num
set_option linter.unusedVariables false

end Go.Proofs.Ytgecbfbmmbfnmaa
namespace Go.Proofs.Ytgecbfbmmbfnmaa
open Go.ChangeShapes Go.WideShapes Go.ChangeAt Go.RowKit Num
set_option linter.unusedVariables false

end Go.Proofs.Ytgecbfbmmbfnmaa
