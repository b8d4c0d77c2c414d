/- The walks of the exact laws of CanCross and SineAt: each returns true and writes nothing that was there. -/
import Derived.Test.YtaaklnabomhleaaCns
import Derived.Test.YtaaklnabomhleaaLDir
import Derived.Test.YtaaklnabomhleaaPrs
import Derived.Test.YtaaklnabomhleaaRts
import Derived.Deep.RegionHeld3
import Derived.Deep.DeepCutAuto
import Derived.Deep.DrawnRows
import Derived.Deep.RegionWith
import Derived.Outline
namespace Go.Proofs.Ytaaklnabomhleaa
open Go.ChangeShapes Go.WideShapes Go.ChangeAt Go.RowKit Go.Shelf Num
set_option linter.unusedVariables false
attribute [local go_sem ↓] Go.wp_at_zero Go.wp_at_succ
theorem at23 {W w2 : World} {m n : Nat} {v0 v1 u0 u1 u2 : Value} {t t' : TypeId} (h : Bk W m #[v0, v1] t) (g : Bk W n #[u0, u1, u2] t') (hb : Below W.heap.size W w2) :
    w2.cell? ⟨m, 0, none⟩ = some v0 ∧ w2.cell? ⟨m, 1, none⟩ = some v1 ∧ w2.cell? ⟨n, 0, none⟩ = some u0 ∧ w2.cell? ⟨n, 1, none⟩ = some u1 ∧ w2.cell? ⟨n, 2, none⟩ = some u2 ∧ Below W.heap.size W w2 :=
  ⟨(h.on hb).cell 0 rfl, (h.on hb).cell 1 rfl, (g.on hb).cell 0 rfl, (g.on hb).cell 1 rfl, (g.on hb).cell 2 rfl, hb⟩
theorem rowIs_al {w : World} {g : Nat} {t : TypeId} {n : Nat} {f : Nat → Value} {o : Obj} (h : w.rowIs g t n f) : (w.alloc o).rowIs g t n f := rowIs_on h ((Below.refl _ _).alloc (Nat.le_refl _) _)
theorem bel_1 {w : World} {o : Obj} : Below w.heap.size w (w.alloc o) := (Below.refl _ _).alloc (Nat.le_refl _) _

end Go.Proofs.Ytaaklnabomhleaa
