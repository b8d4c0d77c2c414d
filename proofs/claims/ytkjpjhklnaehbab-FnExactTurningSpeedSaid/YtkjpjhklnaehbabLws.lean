/- The walks of the exact laws of functions of directions: each returns true and writes nothing that was there. The walks of the exact laws of CanCross and SineAt: each returns true and writes nothing that was there. -/
import Derived.Test.YtkjpjhklnaehbabDrc
import Derived.Test.YtkjpjhklnaehbabDrm
import Derived.Deep.RegionHeld3
import Derived.Deep.DeepCutAuto
import Derived.Deep.DrawnRows
import Derived.Outline
import Derived.Test.YtkjpjhklnaehbabCns
import Derived.Test.YtkjpjhklnaehbabPrs
import Derived.Test.YtkjpjhklnaehbabRts
import Derived.Deep.RegionWith
namespace Go.Proofs.Ytkjpjhklnaehbab
open Go.ChangeShapes Go.WideShapes Go.ChangeAt Go.RowKit Num
set_option linter.unusedVariables false
attribute [local go_sem ↓] Go.wp_at_zero Go.wp_at_succ
theorem tod_any (a b g : Int) (w : World) :
    Calls Try.prog 9 #[.agg #[.int .i64 a, .int .i64 b, .int .i64 g]] w fun e w' => e = .returned (.agg #[.int .i64 a, .int .i64 b, .int .i64 g]) ∧ Below w.heap.size w w' := by
  go_enter Try.func9, Try.ntmps9
  go_wp2
  exact bodyPost_ret (v := .agg #[.int .i64 a, .int .i64 b, .int .i64 g]) (by simp [results, Try.results9, go_sem]) rfl ⟨rfl, (by repeat (first | exact Below.refl _ _ | (refine Below.alloc ?_ (by simp <;> omega) _) | (refine Below.setCell ?_ (by simp <;> omega) _) | (refine Below.drew ?_) | (refine bel_drewN ?_ _)))⟩
end Go.Proofs.Ytkjpjhklnaehbab
namespace Go.Proofs.Ytkjpjhklnaehbab
open Go.ChangeShapes Go.WideShapes Go.ChangeAt Go.RowKit Go.Shelf Num
set_option linter.unusedVariables false
attribute [local go_sem ↓] Go.wp_at_zero Go.wp_at_succ
theorem at23 {W w2 : World} {m n : Nat} {v0 v1 u0 u1 u2 : Value} {t t' : TypeId} (h : Bk W m #[v0, v1] t) (g : Bk W n #[u0, u1, u2] t') (hb : Below W.heap.size W w2) :
    w2.cell? ⟨m, 0, none⟩ = some v0 ∧ w2.cell? ⟨m, 1, none⟩ = some v1 ∧ w2.cell? ⟨n, 0, none⟩ = some u0 ∧ w2.cell? ⟨n, 1, none⟩ = some u1 ∧ w2.cell? ⟨n, 2, none⟩ = some u2 ∧ Below W.heap.size W w2 :=
  ⟨(h.on hb).cell 0 rfl, (h.on hb).cell 1 rfl, (g.on hb).cell 0 rfl, (g.on hb).cell 1 rfl, (g.on hb).cell 2 rfl, hb⟩
theorem rowIs_al {w : World} {g : Nat} {t : TypeId} {n : Nat} {f : Nat → Value} {o : Obj} (h : w.rowIs g t n f) : (w.alloc o).rowIs g t n f := rowIs_on h ((Below.refl _ _).alloc (Nat.le_refl _) _)
theorem bel_1 {w : World} {o : Obj} : Below w.heap.size w (w.alloc o) := (Below.refl _ _).alloc (Nat.le_refl _) _

end Go.Proofs.Ytkjpjhklnaehbab
