/- Contracts of LayerOf, the program's and the model's. -/
import Derived.Test.YtcaekheghjnipabDoorLay2
namespace Go.Proofs.YtcaekheghjnipabDoor
open Go.ChangeShapes Go.WideShapes Go.ChangeAt Go.RowKit Go.Shelf Num
set_option linter.unusedVariables false
theorem rt2 {a b a' b' : Int} (h : a = a') (h2 : b = b') : Ending.returned (.tuple #[.int .i64 a, .int .i64 b]) = .returned (.tuple #[.int .i64 a', .int .i64 b']) := by rw [h, h2]
/-- the layer, 0 where there is none -/
def lyV (zs ys : List Int) (x : Int) : Int := if prfB zs ys && hdB zs x then (layN zs x : Int) else 0
theorem lyV_t {zs ys : List Int} {x : Int} (h : prfB zs ys = true) (g : hdB zs x = true) : lyV zs ys x = (layN zs x : Int) := by unfold lyV; rw [h, g]; rfl
theorem lyV_f {zs ys : List Int} {x : Int} (h : prfB zs ys = false) : lyV zs ys x = 0 := by unfold lyV; rw [h]; rfl
theorem lyV_g {zs ys : List Int} {x : Int} (g : hdB zs x = false) : lyV zs ys x = 0 := by unfold lyV; rw [g, Bool.and_false]; rfl

end Go.Proofs.YtcaekheghjnipabDoor
