/- Contracts of the program's states and steps of a ray. -/
import Derived.Test.YtgecbfbmmbfnmaaRyQ
import Derived.Test.YtgecbfbmmbfnmaaRyN
import Derived.Handy
import Derived.Deep.RegionHeld3
import Derived.Deep.DeepCutAuto
import Derived.Deep.RegionWith
namespace Go.Proofs.Ytgecbfbmmbfnmaa
open Go.ChangeShapes Go.WideShapes Go.ChangeAt Go.RowKit Go.Shelf Num
set_option linter.unusedVariables false
set_option linter.unusedSimpArgs false
theorem evW_iface (a b : Option Addr) (ca cb : Nat) (zs ys : List Int) (i : Nat) (c s h : Int) (k : Nat) (dn : Bool) : ∃ t v, evW a b ca cb zs ys i c s h k dn = .iface t v := by
  unfold evW
  cases inP zs.length k dn <;> cases crB ys (i : Int) c h (fk k dn : Nat) <;> cases dn <;> exact ⟨_, _, rfl⟩

end Go.Proofs.Ytgecbfbmmbfnmaa
