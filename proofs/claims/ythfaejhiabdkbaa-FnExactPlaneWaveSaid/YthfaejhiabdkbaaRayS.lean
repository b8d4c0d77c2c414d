/- Contracts of the model's helpers on rays. -/
import Derived.Test.YthfaejhiabdkbaaRys
import Derived.Test.YthfaejhiabdkbaaDirS
namespace Go.Proofs.Ythfaejhiabdkbaa
open Go.ChangeShapes Go.WideShapes Go.ChangeAt Go.RowKit Go.Shelf Num
set_option linter.unusedVariables false
theorem inB_hkn (zs : List Int) (x : Int) : inB x 0 ((zs.length : Int) - 1) = hkB zs x := by
  unfold inB hkB
  rw [Bool.eq_iff_iff]
  simp only [decide_eq_true_eq, Bool.and_eq_true]
  omega
theorem sq_eq (A B : Int) : (A - B) * (A + B) = A * A - B * B := by rw [Int.sub_mul, Int.mul_add, Int.mul_add, Int.mul_comm B A]; omega
theorem sq_pos {A B : Int} (hA : 0 ≤ A) (hB : 0 ≤ B) : (0 < (A - B) * (A + B)) ↔ B < A := by
  constructor
  · intro h
    rcases Int.lt_or_le B A with l | l
    · exact l
    · have := Int.mul_le_mul_of_nonneg_right (show A - B ≤ 0 by omega) (show 0 ≤ A + B by omega)
      omega
  · intro h; exact Int.mul_pos (by omega) (by omega)

end Go.Proofs.Ythfaejhiabdkbaa
