/- Contracts of the laws' helpers on states of a ray. -/
import Derived.Test.YtaaklnabomhleaaLRay
import Derived.Test.YtaaklnabomhleaaPrs
import Derived.Test.YtaaklnabomhleaaBas
import Derived.Deep.RegionHeld3
import Derived.Deep.DeepCutAuto
import Derived.Deep.DrawnRows
import Derived.Deep.RegionWith
import Derived.Outline
import Derived.Handy
namespace Go.Proofs.Ytaaklnabomhleaa
open Go.ChangeShapes Go.WideShapes Go.ChangeAt Go.RowKit Go.Shelf Num
set_option linter.unusedVariables false
set_option linter.unusedSimpArgs false

set_option maxRecDepth 100000 in
set_option maxHeartbeats 2000000 in
theorem eqrs_any (w : World) (K lo hi : Int) (dn : Bool) :
    Calls Try.prog 60 #[.agg #[.int .i64 K, .bool dn, .int .i64 lo, .int .i64 hi], .agg #[.int .i64 K, .bool dn, .int .i64 lo, .int .i64 hi]] w fun e w' => e = .returned (.bool true) ∧ Below w.heap.size w w' := by
  have K1 : Hid (∀ W : World, Calls Try.prog 36 #[.agg #[.int .i64 lo, .int .i64 hi], .agg #[.int .i64 lo, .int .i64 hi]] W fun e w' => e = .returned (.bool true) ∧ Below W.heap.size W w') := Lib.hid (fun W => by have := eqv_any lo hi lo hi W; simpa only [beq_self_eq_true, Bool.and_self] using this)
  go_enter Try.func60, Try.ntmps60
  go_wp2_with fail
  generalize hW : World.alloc _ _ = W
  have bA : Bk W (w.heap.size) #[.int .i64 K, .bool dn, .int .i64 lo, .int .i64 hi] 61 := by rw [← hW]; repeat (first | (refine Bk.new' ?_; (simp; done)) | refine Bk.alloc ?_ _)
  have bB : Bk W (w.heap.size + 1) #[.int .i64 K, .bool dn, .int .i64 lo, .int .i64 hi] 61 := by rw [← hW]; repeat (first | (refine Bk.new' ?_; (simp; done)) | refine Bk.alloc ?_ _)
  have HB : Hid (Below w.heap.size w W) := Lib.hid (by rw [← hW]; exact (by repeat (first | exact Below.refl _ _ | (refine Below.alloc ?_ (by simp <;> omega) _) | (refine Below.setCell ?_ (by simp <;> omega) _) | (refine Below.drew ?_) | (refine bel_drewN ?_ _))))
  clear hW
  (with_reducible refine Calls.mono (K1.out _) ?_)
  rintro e w1 ⟨rfl, hb⟩
  go_wp2
  go_ret
  exact ⟨rfl, bel_end HB.out hb⟩
end Go.Proofs.Ytaaklnabomhleaa
