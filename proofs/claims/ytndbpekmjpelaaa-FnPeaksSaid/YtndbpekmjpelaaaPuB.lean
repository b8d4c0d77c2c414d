/- Contracts of correlations, sidelobes, energies, the program's and the model's. -/
import Derived.Test.YtndbpekmjpelaaaPuA
import Derived.Test.YtndbpekmjpelaaaLys
import Derived.Test.YtndbpekmjpelaaaRowG
namespace Go.Proofs.Ytndbpekmjpelaaa
open Go.ChangeShapes Go.WideShapes Go.ChangeAt Go.RowKit Num
set_option linter.unusedVariables false
set_option linter.unusedSimpArgs false
end Go.Proofs.Ytndbpekmjpelaaa
