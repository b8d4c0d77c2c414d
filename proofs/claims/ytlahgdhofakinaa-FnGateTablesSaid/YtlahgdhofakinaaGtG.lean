/- Contracts of the model's ContactsIn and NearestIn. -/
import Derived.Test.YtlahgdhofakinaaGtD
import Derived.Test.YtlahgdhofakinaaPuT
namespace Go.Proofs.Ytlahgdhofakinaa
open Go.ChangeShapes Go.WideShapes Go.ChangeAt Go.RowKit Go.Shelf Num
set_option linter.unusedVariables false
set_option linter.unusedSimpArgs false

theorem kcG {w w' : World} {p : Addr} {v : Value} (h : w.cell? p = some v) (hb : Below w.heap.size w w') : w'.cell? p = some v := (hb.cell (p := p) (World.block_lt_of_cell? _ _ h)).trans h
theorem ret_li {a : Option Addr} {n c n' : Nat} {q q' : Int} (h : n' = n) (g : q' = q) : Ending.returned (.tuple #[.slice a n c, .int .i64 q]) = .returned (.tuple #[.slice a n' c, .int .i64 q']) := by rw [h, g]

end Go.Proofs.Ytlahgdhofakinaa
