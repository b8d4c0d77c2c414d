/- Contracts of sidelobes, energies and lists of correlations, the program's and the model's. -/
import Derived.Test.YtlahgdhofakinaaPuB
namespace Go.Proofs.Ytlahgdhofakinaa
open Go.ChangeShapes Go.WideShapes Go.ChangeAt Go.RowKit Num
set_option linter.unusedVariables false
set_option linter.unusedSimpArgs false
/-- code, energy, sidelobe -/
def sgC (zs : List Int) : Int := if sigB zs then 0 else 1
def enV (zs : List Int) : Int := if sigB zs then cor zs 0 else 0
def sbV (zs : List Int) : Int := if sigB zs then sideV zs else 0
end Go.Proofs.Ytlahgdhofakinaa
