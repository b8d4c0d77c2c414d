/- The walk of the exact law of the open layers: it returns true and writes nothing that was there. -/
import Derived.Test.YtkjpjhklnaehbabLop
import Derived.Deep.RegionWith
namespace Go.Proofs.Ytkjpjhklnaehbab
open Go.ChangeShapes Go.WideShapes Go.ChangeAt Go.RowKit Go.Shelf Num
set_option linter.unusedVariables false
attribute [local go_sem ↓] Go.wp_at_zero Go.wp_at_succ
theorem loL_len (zs ys : List Int) (src c s h : Int) : (loL zs ys src c s h).length ≤ 12 := by
  unfold loL
  split
  · rename_i e
    have h1 := (Okp.of (rcod_0 e).1).n12
    exact Nat.le_trans (opL_len _ _ _ _ _) (by omega)
  · simp
end Go.Proofs.Ytkjpjhklnaehbab
