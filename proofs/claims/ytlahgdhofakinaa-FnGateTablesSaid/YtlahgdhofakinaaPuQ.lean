/- Contracts of PulseOfBits, the program's and the model's. -/
import Derived.Test.YtlahgdhofakinaaPuP
namespace Go.Proofs.Ytlahgdhofakinaa
open Go.ChangeShapes Go.WideShapes Go.ChangeAt Go.RowKit Go.Shelf Num
set_option linter.unusedVariables false
set_option linter.unusedSimpArgs false

end Go.Proofs.Ytlahgdhofakinaa
