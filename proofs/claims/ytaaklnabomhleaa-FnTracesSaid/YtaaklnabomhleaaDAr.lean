/- The model's draws of a ray with a layer. -/
import Derived.Test.YtaaklnabomhleaaDry
import Derived.Deep.RegionHeld3
import Derived.Deep.DrawnRows
namespace Go.Proofs.Ytaaklnabomhleaa
open Go.ChangeShapes Go.WideShapes Go.ChangeAt Go.RowKit Go.Shelf Num
set_option linter.unusedVariables false
attribute [local go_sem ↓] Go.wp_at_zero Go.wp_at_succ
/-- what a draw of a ray with a layer leaves -/
def RlDrawn (w : World) (s : Nat) (e : Ending) (w' : World) : Prop :=
  ∃ (a b : Option Addr) (c d : Nat) (zs ys : List Int) (x p q r l : Int) (ab : Bool), e = .returned (.tuple #[.agg #[.slice a zs.length c, .slice b ys.length d], .int .i64 x, .agg #[.int .i64 p, .int .i64 q, .int .i64 r], .int .i64 l, .bool ab]) ∧ PrA w' (w.heap.size + 1) a b c d zs ys ∧ w.grownBy w' (some s) ∧ Src w' s
/-- .. out of a code -/
def RlB1 (w : World) (e : Ending) (w' : World) : Prop :=
  ∃ (a b : Option Addr) (c d : Nat) (zs ys : List Int) (x p q r l : Int) (ab : Bool), e = .returned (.tuple #[.agg #[.slice a zs.length c, .slice b ys.length d], .int .i64 x, .agg #[.int .i64 p, .int .i64 q, .int .i64 r], .int .i64 l, .bool ab]) ∧ PrA w' (w.heap.size + 1) a b c d zs ys ∧ Below w.heap.size w w'
theorem two_cells {x y : Int} (j : Nat) (hj : j < 2) : (#[.int .i64 x, .int .i64 y] : Array Value)[j]? = some (.int .i64 ([x, y].getD j 0)) := by
  match j, hj with
  | 0, _ => rfl
  | 1, _ => rfl

end Go.Proofs.Ytaaklnabomhleaa
