/- Contracts of ScaledInterval, the program's and the model's. -/
import Derived.Test.YtcaekheghjnipabDoorIvl2
namespace Go.Proofs.YtcaekheghjnipabDoor
open Go.ChangeShapes Go.WideShapes Go.ChangeAt Go.RowKit Num
set_option linter.unusedVariables false
/-- the scaled interval -/
def scT (a b n d : Int) : Int × Int × Int := if vldB a b then (if hasB (-1000000) 1000000 n && hasB 1 1000000 d then within ((min (a * n) (b * n)).fdiv d) (cdiv (max (a * n) (b * n)) d) else (0, 0, 2)) else (0, 0, 1)
theorem vldB_t {a b : Int} (h : vldB a b = true) : -1000000000000 ≤ a ∧ a ≤ 1000000000000 ∧ -1000000000000 ≤ b ∧ b ≤ 1000000000000 ∧ a ≤ b := by
  unfold vldB at h
  simp only [Bool.and_eq_true, decide_eq_true_eq] at h
  obtain ⟨⟨h1, h2⟩, h3⟩ := h
  have := valB_t h1
  have := valB_t h2
  omega
theorem hasB_t {a b x : Int} (h : hasB a b x = true) : a ≤ x ∧ x ≤ b := by
  unfold hasB at h
  simpa only [Bool.and_eq_true, decide_eq_true_eq] using h
theorem resT_eq {T U : Int × Int × Int} (e : T = U) : Ending.returned (.tuple #[.agg #[.int .i64 U.1, .int .i64 U.2.1], .int .i64 U.2.2]) = .returned (.tuple #[.agg #[.int .i64 T.1, .int .i64 T.2.1], .int .i64 T.2.2]) := by rw [e]
theorem lih_any (x a b : Int) (w : World) :
    Calls Tryd.prog 54 #[.int .i64 x, .int .i64 a, .int .i64 b] w fun e w' => e = .returned (.bool (hasB a b x)) ∧ w = w' :=
  (lin_any x a b w).mono fun e w' h => ⟨by rw [h.1, inB_has], h.2⟩

end Go.Proofs.YtcaekheghjnipabDoor
