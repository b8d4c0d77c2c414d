/- The walks of the exact laws of functions of directions: each returns true and writes nothing that was there. -/
import Derived.Test.YtaaklnabomhleaaDrc
import Derived.Test.YtaaklnabomhleaaDrm
import Derived.Deep.RegionHeld3
import Derived.Deep.DeepCutAuto
import Derived.Deep.DrawnRows
import Derived.Outline
namespace Go.Proofs.Ytaaklnabomhleaa
open Go.ChangeShapes Go.WideShapes Go.ChangeAt Go.RowKit Num
set_option linter.unusedVariables false
attribute [local go_sem ↓] Go.wp_at_zero Go.wp_at_succ
theorem tod_any (a b g : Int) (w : World) :
    Calls Try.prog 25 #[.agg #[.int .i64 a, .int .i64 b, .int .i64 g]] w fun e w' => e = .returned (.agg #[.int .i64 a, .int .i64 b, .int .i64 g]) ∧ Below w.heap.size w w' := by
  go_enter Try.func25, Try.ntmps25
  go_wp2
  exact bodyPost_ret (v := .agg #[.int .i64 a, .int .i64 b, .int .i64 g]) (by simp [results, Try.results25, go_sem]) rfl ⟨rfl, (by repeat (first | exact Below.refl _ _ | (refine Below.alloc ?_ (by simp <;> omega) _) | (refine Below.setCell ?_ (by simp <;> omega) _) | (refine Below.drew ?_) | (refine bel_drewN ?_ _)))⟩
theorem eqd_any (a b g c d h : Int) (w : World) :
    Calls Try.prog 76 #[.agg #[.int .i64 a, .int .i64 b, .int .i64 g], .agg #[.int .i64 c, .int .i64 d, .int .i64 h]] w fun e w' => e = .returned (.bool (a == c && b == d && g == h)) ∧ Below w.heap.size w w' := by
  cases ha : (a == c) <;> cases hb : (b == d) <;> cases hc : (g == h)
  all_goals
    have ha' : (a != c) = !(a == c) := rfl
    have hb' : (b != d) = !(b == d) := rfl
    have hc' : (g != h) = !(g == h) := rfl
    rw [ha] at ha'
    rw [hb] at hb'
    rw [hc] at hc'
    go_enter Try.func76, Try.ntmps76
    go_wp2
    go_ret
    exact ⟨rfl, (by repeat (first | exact Below.refl _ _ | (refine Below.alloc ?_ (by simp <;> omega) _) | (refine Below.setCell ?_ (by simp <;> omega) _) | (refine Below.drew ?_) | (refine bel_drewN ?_ _)))⟩
end Go.Proofs.Ytaaklnabomhleaa
