/- layings -/
import Derived.Shelf.Lay
import Derived.Shelf.LaySoft
import Derived.Shelf.Small.Strs
import Derived.Ground.NamesProg
import Derived.Test.YthbcllejojnboabProg
namespace Go.Proofs
open Go.Shelf
shelf_try shelf_lay Lays.n137 Nm 137 at Try as Try.lays137
shelf_tried
end Go.Proofs
