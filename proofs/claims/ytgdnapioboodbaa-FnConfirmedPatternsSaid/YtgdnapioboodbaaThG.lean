/- Contracts of chapter 13 that end in the same world, in the form of those that end behind it; both sides' named alike. -/
import Derived.Test.YtgdnapioboodbaaThY
import Derived.Test.YtgdnapioboodbaaThC
namespace Go.Proofs.Ytgdnapioboodbaa
open Go.ChangeShapes Go.WideShapes Go.ChangeAt Go.RowKit Go.Shelf Num
set_option linter.unusedVariables false
set_option linter.unusedSimpArgs false
theorem lcc_b (w : World) (n : Int) :
    Calls Try.prog 19 #[.int .i64 n] w fun e w' => e = .returned (.tuple #[.int .i64 (ccT n).1, .int .i64 (ccT n).2]) ∧ Below w.heap.size w w' := by
  refine (lcc_any w n).mono ?_
  rintro e w' ⟨rfl, rfl⟩
  exact ⟨rfl, Below.refl _ _⟩
theorem icc_b (w : World) (n : Int) :
    Calls Try.prog 18 #[.int .i64 n] w fun e w' => e = .returned (.tuple #[.int .i64 (ccT n).1, .int .i64 (ccT n).2]) ∧ Below w.heap.size w w' := by
  refine (icc_any w n).mono ?_
  rintro e w' ⟨rfl, rfl⟩
  exact ⟨rfl, Below.refl _ _⟩
theorem ltc_b (w : World) (n a m : Int) :
    Calls Try.prog 17 #[.int .i64 n, .int .i64 a, .int .i64 m] w fun e w' => e = .returned (.tuple #[.int .i64 (tcT n a m).1, .int .i64 (tcT n a m).2]) ∧ Below w.heap.size w w' := by
  refine (ltc_any w n a m).mono ?_
  rintro e w' ⟨rfl, rfl⟩
  exact ⟨rfl, Below.refl _ _⟩
theorem llt_b (w : World) (n a x d : Int) :
    Calls Try.prog 22 #[.int .i64 n, .int .i64 a, .int .i64 x, .int .i64 d] w fun e w' => e = .returned (.tuple #[.int .i64 (ltT n a x d).1, .int .i64 (ltT n a x d).2]) ∧ Below w.heap.size w w' := by
  refine (llt_any w n a x d).mono ?_
  rintro e w' ⟨rfl, rfl⟩
  exact ⟨rfl, Below.refl _ _⟩
theorem lbt_b (w : World) (n p q : Int) :
    Calls Try.prog 25 #[.int .i64 n, .int .i64 p, .int .i64 q] w fun e w' => e = .returned (.tuple #[.int .i64 (btT n p q).1, .int .i64 (btT n p q).2]) ∧ Below w.heap.size w w' := by
  refine (lbt_any w n p q).mono ?_
  rintro e w' ⟨rfl, rfl⟩
  exact ⟨rfl, Below.refl _ _⟩
theorem ltr_b (w : World) (a x d : Int) :
    Calls Try.prog 28 #[.int .i64 a, .int .i64 x, .int .i64 d] w fun e w' => e = .returned (.tuple #[.int .i64 (trT a x d).1, .int .i64 (trT a x d).2]) ∧ Below w.heap.size w w' := by
  refine (ltr_any w a x d).mono ?_
  rintro e w' ⟨rfl, rfl⟩
  exact ⟨rfl, Below.refl _ _⟩
end Go.Proofs.Ytgdnapioboodbaa
