/- Contracts of correlations, sidelobes, energies, the program's and the model's. -/
import Derived.Test.YtlahgdhofakinaaPuA
import Derived.Test.YtlahgdhofakinaaLys
import Derived.Test.YtlahgdhofakinaaRowG
namespace Go.Proofs.Ytlahgdhofakinaa
open Go.ChangeShapes Go.WideShapes Go.ChangeAt Go.RowKit Num
set_option linter.unusedVariables false
set_option linter.unusedSimpArgs false
end Go.Proofs.Ytlahgdhofakinaa
