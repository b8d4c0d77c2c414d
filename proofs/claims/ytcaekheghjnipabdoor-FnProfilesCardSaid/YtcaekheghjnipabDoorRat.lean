/- Contracts of valid fractions and of lowest terms, the program's and the model's. -/
import Derived.Test.YtcaekheghjnipabDoorGcd
import Derived.Test.YtcaekheghjnipabDoorIvl2
namespace Go.Proofs.YtcaekheghjnipabDoor
open Go.ChangeShapes Go.WideShapes Go.ChangeAt Go.RowKit Num
set_option linter.unusedVariables false

theorem mkT_y {n d p q : Int} (hp : lowN n d = p) (hq : lowD n d = q) (h : ratB p q = true) : mkT n d = (p, q, 0) := by unfold mkT; rw [hp, hq, h]; rfl
theorem mkT_n {n d p q : Int} (hp : lowN n d = p) (hq : lowD n d = q) (h : ratB p q = false) : mkT n d = (0, 0, 2) := by unfold mkT; rw [hp, hq, h]; rfl
end Go.Proofs.YtcaekheghjnipabDoor
