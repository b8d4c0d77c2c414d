/- Contracts of the small functions on intervals, the program's and the model's: valid intervals, numbers in them, results within the values; the laws' own copies of an interval and their comparison. -/
import Derived.Test.YtcaekheghjnipabDoorNum
import Derived.Below
namespace Go.Proofs.YtcaekheghjnipabDoor
open Go.ChangeShapes Go.WideShapes Go.ChangeAt Go.RowKit Num
set_option linter.unusedVariables false

theorem mul_abs {a n : Int} {A N : Nat} (ha : a.natAbs ≤ A) (hn : n.natAbs ≤ N) : (a * n).natAbs ≤ A * N := by rw [Int.natAbs_mul]; exact Nat.mul_le_mul ha hn
/-- the interval from a to b is valid -/
def vldB (a b : Int) : Bool := valB a && valB b && decide (a ≤ b)
/-- x lies in the interval from a to b -/
def hasB (a b x : Int) : Bool := decide (a ≤ x) && decide (x ≤ b)

theorem has_any (a b x : Int) (w : World) :
    Calls Tryd.prog 56 #[.agg #[.int .i64 a, .int .i64 b], .int .i64 x] w fun e w' => e = .returned (.bool (hasB a b x)) ∧ w' = w.alloc (.cells #[.int .i64 a, .int .i64 b] 67) := by
  cases ha : decide (a ≤ x) <;> cases hb : decide (x ≤ b)
  all_goals
    go_enter Tryd.func56, Tryd.ntmps56
    go_wp2
    go_ret
    exact ⟨ret_bool (by unfold hasB; rw [ha, hb]; rfl), rfl⟩

theorem lacks_any (a b x : Int) (w : World) :
    Calls Tryd.prog 43 #[.agg #[.int .i64 a, .int .i64 b], .int .i64 x] w fun e w' => e = .returned (.bool (!hasB a b x)) ∧ w' = (w.alloc (.cells #[.int .i64 a, .int .i64 b] 67)).alloc (.cells #[.int .i64 a, .int .i64 b] 67) := by
  go_enter Tryd.func43, Tryd.ntmps43
  go_wp2_with (go_at_call 56; refine (has_any _ _ _ _).mono ?_; rintro e w' ⟨rfl, rfl⟩)
  go_ret
  exact ⟨rfl, rfl⟩

end Go.Proofs.YtcaekheghjnipabDoor
