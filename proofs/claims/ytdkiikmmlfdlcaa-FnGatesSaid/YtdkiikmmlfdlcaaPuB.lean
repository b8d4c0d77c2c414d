/- Contracts of correlations, sidelobes, energies, the program's and the model's. -/
import Derived.Test.YtdkiikmmlfdlcaaPuA
import Derived.Test.YtdkiikmmlfdlcaaLys
import Derived.Test.YtdkiikmmlfdlcaaRowG
namespace Go.Proofs.Ytdkiikmmlfdlcaa
open Go.ChangeShapes Go.WideShapes Go.ChangeAt Go.RowKit Num
set_option linter.unusedVariables false
set_option linter.unusedSimpArgs false
end Go.Proofs.Ytdkiikmmlfdlcaa
