/- Contracts of NearestQuotient, the program's and the model's: both hand back the nearest integer, of two the even one. -/
import Derived.Test.YtndbpekmjpelaaaBas
import Derived.Deep.QuietTactic
import Derived.BigQuiet
namespace Go.Proofs.Ytndbpekmjpelaaa
open Go.ChangeShapes Go.WideShapes Go.ChangeAt Go.RowKit Num
set_option linter.unusedVariables false
/-- the nearest integer of a / b, of two the even one -/
def near (a b : Int) : Int := if (b.natAbs : Int) < 2 * ((a - a.fdiv b * b).natAbs : Int) ∨ (2 * ((a - a.fdiv b * b).natAbs : Int) = b.natAbs ∧ a.fdiv b % 2 = 1) then a.fdiv b + 1 else a.fdiv b
def nqv (a b : Int) : Int := if dcode a b = 0 then near a b else 0
theorem near_neg (a b : Int) : near (-a) (-b) = near a b := by
  unfold near
  rw [Int.neg_fdiv_neg, Int.natAbs_neg]
  have : (-a - a.fdiv b * -b).natAbs = (a - a.fdiv b * b).natAbs := by rw [Int.mul_neg]; omega
  rw [this]

theorem fd2_t (q : Int) (h : q % 2 = 1) : (q.fdiv 2 * 2 != q) = true := by
  rw [Int.fdiv_eq_ediv_of_nonneg _ (by omega)]; simp; omega
theorem fd2_f (q : Int) (h : q % 2 = 0) : (q.fdiv 2 * 2 != q) = false := by
  rw [Int.fdiv_eq_ediv_of_nonneg _ (by omega)]; simp; omega
theorem fd2_bd (q : Int) (h : -9000000000000000 ≤ q) (g : q ≤ 9000000000000000) : -9000000000000000 ≤ q.fdiv 2 ∧ q.fdiv 2 ≤ 9000000000000000 := by
  rw [Int.fdiv_eq_ediv_of_nonneg _ (by omega)]; omega
end Go.Proofs.Ytndbpekmjpelaaa
