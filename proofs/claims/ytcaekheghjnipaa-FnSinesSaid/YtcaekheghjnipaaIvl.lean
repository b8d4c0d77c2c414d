/- Contracts of the small functions on intervals, the program's and the model's: valid intervals, numbers in them, results within the values; the laws' own copies of an interval and their comparison. -/
import Derived.Test.YtcaekheghjnipaaNum
import Derived.Below
namespace Go.Proofs.Ytcaekheghjnipaa
open Go.ChangeShapes Go.WideShapes Go.ChangeAt Go.RowKit Num
set_option linter.unusedVariables false

theorem mul_abs {a n : Int} {A N : Nat} (ha : a.natAbs ≤ A) (hn : n.natAbs ≤ N) : (a * n).natAbs ≤ A * N := by rw [Int.natAbs_mul]; exact Nat.mul_le_mul ha hn
/-- the interval from a to b is valid -/
def vldB (a b : Int) : Bool := valB a && valB b && decide (a ≤ b)
/-- x lies in the interval from a to b -/
def hasB (a b x : Int) : Bool := decide (a ≤ x) && decide (x ≤ b)

theorem has_any (a b x : Int) (w : World) :
    Calls Try.prog 91 #[.agg #[.int .i64 a, .int .i64 b], .int .i64 x] w fun e w' => e = .returned (.bool (hasB a b x)) ∧ w' = w.alloc (.cells #[.int .i64 a, .int .i64 b] 47) := by
  cases ha : decide (a ≤ x) <;> cases hb : decide (x ≤ b)
  all_goals
    go_enter Try.func91, Try.ntmps91
    go_wp2
    go_ret
    exact ⟨ret_bool (by unfold hasB; rw [ha, hb]; rfl), rfl⟩

theorem lacks_any (a b x : Int) (w : World) :
    Calls Try.prog 57 #[.agg #[.int .i64 a, .int .i64 b], .int .i64 x] w fun e w' => e = .returned (.bool (!hasB a b x)) ∧ w' = (w.alloc (.cells #[.int .i64 a, .int .i64 b] 47)).alloc (.cells #[.int .i64 a, .int .i64 b] 47) := by
  go_enter Try.func57, Try.ntmps57
  go_wp2_with (go_at_call 91; refine (has_any _ _ _ _).mono ?_; rintro e w' ⟨rfl, rfl⟩)
  go_ret
  exact ⟨rfl, rfl⟩

theorem eqv_any (a b c d : Int) (w : World) :
    Calls Try.prog 32 #[.agg #[.int .i64 a, .int .i64 b], .agg #[.int .i64 c, .int .i64 d]] w fun e w' => e = .returned (.bool (a == c && b == d)) ∧ Below w.heap.size w w' := by
  cases ha : (a == c) <;> cases hb : (b == d)
  all_goals
    have ha' : (a != c) = !(a == c) := rfl
    have hb' : (b != d) = !(b == d) := rfl
    rw [ha] at ha'
    rw [hb] at hb'
    go_enter Try.func32, Try.ntmps32
    go_wp2
    go_ret
    exact ⟨rfl, (by repeat (first | exact Below.refl _ _ | (refine Below.alloc ?_ (by simp <;> omega) _) | (refine Below.setCell ?_ (by simp <;> omega) _) | (refine Below.drew ?_) | (refine bel_drewN ?_ _)))⟩

end Go.Proofs.Ytcaekheghjnipaa
