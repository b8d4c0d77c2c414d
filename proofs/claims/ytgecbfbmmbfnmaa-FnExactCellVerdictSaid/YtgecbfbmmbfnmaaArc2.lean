/- Contracts of the program's arcs: the depth of turning, the radius. -/
import Derived.Test.YtgecbfbmmbfnmaaArc
import Derived.Test.YtgecbfbmmbfnmaaRts
import Derived.Deep.RegionHeld3
import Derived.Deep.DeepCutAuto
import Derived.Deep.RegionWith
namespace Go.Proofs.Ytgecbfbmmbfnmaa
open Go.ChangeShapes Go.WideShapes Go.ChangeAt Go.RowKit Go.Shelf Num
set_option linter.unusedVariables false
def gotA (w : World) (p : Addr) : Value := (w.cell? p).getD undef
theorem gotA_mk {w : World} {p : Addr} {v : Value} (h : w.cell? p = some v) : w.cell? p = some (gotA w p) := by unfold gotA; rw [h]; rfl
theorem set2_oldA {w : World} {m o : Nat} {a b v : Value} (h : w.cell? ⟨m, o, none⟩ = some v) : ((w.setCell ⟨m + 1, 0, none⟩ a).setCell ⟨m + 1, 1, none⟩ b).cell? ⟨m, o, none⟩ = some v := by simp [h, go_sem]
theorem set2_frA {w : World} {p m o : Nat} {a b : Value} {r : Bool} (h : w.frozen? ⟨m, o, none⟩ = r) : ((w.setCell ⟨p, 0, none⟩ a).setCell ⟨p, 1, none⟩ b).frozen? ⟨m, o, none⟩ = r := by simp [h, go_sem]

end Go.Proofs.Ytgecbfbmmbfnmaa
