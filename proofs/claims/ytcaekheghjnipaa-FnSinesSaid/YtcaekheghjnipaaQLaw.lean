/- The draw of two numbers out of a code, and how long a code is. -/
import Derived.Test.YtcaekheghjnipaaFrom
import Derived.Test.YtcaekheghjnipaaCopy
namespace Go.Proofs.Ytcaekheghjnipaa
open Go.ChangeShapes Go.WideShapes Go.ChangeAt Go.RowKit Num
set_option linter.unusedVariables false
theorem Code8.of_row {w : World} {a : Option Addr} {len cap : Nat} {zs : List Int} (h : IsRow .u8 w a len cap zs) : (zs.take len).length = len ∧ Code8 w w.heap.size a (zs.take len) := by
  obtain ⟨h1, h2, h3, h4⟩ := Ints.of_row h
  refine ⟨h2, h3, by omega, fun j hj => ?_⟩
  have hm : (zs.take len).getD j 0 ∈ zs.take len := by
    rw [List.getD_eq_getElem?_getD, List.getElem?_eq_getElem hj]; exact List.getElem_mem hj
  exact bounds_u8 (h4 _ hm)

theorem big_any (w : World) (a : Option Addr) (n c : Nat) :
    Calls Try.prog 42 #[.slice a n c] w fun e w' => e = .returned (.bool (decide (4096 < (n : Int)))) ∧ w = w' := by
  go_enter Try.func42, Try.ntmps42
  go_wp2
  go_ret
  exact ⟨rfl, rfl⟩

/-- what a draw of two numbers leaves -/
def TwoDrawn (w : World) (e : Ending) (w' : World) : Prop :=
  ∃ a b : Int, e = .returned (.tuple #[.int .i64 a, .int .i64 b]) ∧ (Lit.int .i64 a).wf = true ∧ (Lit.int .i64 b).wf = true ∧ Below w.heap.size w w'

end Go.Proofs.Ytcaekheghjnipaa
