/- Contracts of correlations, sidelobes, energies, the program's and the model's. -/
import Derived.Test.YtgdnapioboodbaaPuA
import Derived.Test.YtgdnapioboodbaaLys
import Derived.Test.YtgdnapioboodbaaRowG
namespace Go.Proofs.Ytgdnapioboodbaa
open Go.ChangeShapes Go.WideShapes Go.ChangeAt Go.RowKit Num
set_option linter.unusedVariables false
set_option linter.unusedSimpArgs false
end Go.Proofs.Ytgdnapioboodbaa
