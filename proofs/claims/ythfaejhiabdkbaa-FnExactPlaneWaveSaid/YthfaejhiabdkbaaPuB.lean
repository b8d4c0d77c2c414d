/- Contracts of correlations, sidelobes, energies, the program's and the model's. -/
import Derived.Test.YthfaejhiabdkbaaPuA
import Derived.Test.YthfaejhiabdkbaaLys
import Derived.Test.YthfaejhiabdkbaaRowG
namespace Go.Proofs.Ythfaejhiabdkbaa
open Go.ChangeShapes Go.WideShapes Go.ChangeAt Go.RowKit Num
set_option linter.unusedVariables false
set_option linter.unusedSimpArgs false
end Go.Proofs.Ythfaejhiabdkbaa
