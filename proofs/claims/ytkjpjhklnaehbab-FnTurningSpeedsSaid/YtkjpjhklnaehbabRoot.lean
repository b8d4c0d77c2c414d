/- Contracts of RootBounds, the program's and the model's, and the walk of its exact law. -/
import Derived.Test.YtkjpjhklnaehbabBas
import Derived.Test.YtkjpjhklnaehbabMth
import Derived.Below
import Derived.LoopTactic
import Derived.WalkMore
import Derived.Deep.LoopGhost
namespace Go.Proofs.Ytkjpjhklnaehbab
open Go.ChangeShapes Go.WideShapes Go.ChangeAt Go.RowKit Num
set_option linter.unusedVariables false
/-- the root rounded up -/
def rtup (n : Int) : Int := if rt n * rt n = n then rt n else rt n + 1
def rcode (n : Int) : Int := if 0 ≤ n ∧ n ≤ 4000000000000000000 then 0 else 2
def rlo (n : Int) : Int := if 0 ≤ n ∧ n ≤ 4000000000000000000 then rt n else 0
def rhi (n : Int) : Int := if 0 ≤ n ∧ n ≤ 4000000000000000000 then rtup n else 0
def RootEnd (n : Int) (w : World) (e : Ending) (w' : World) : Prop := e = .returned (.tuple #[.int .i64 (rlo n), .int .i64 (rhi n), .int .i64 (rcode n)]) ∧ w = w'
theorem rootEnd_no {n : Int} {w : World} (h : ¬ (0 ≤ n ∧ n ≤ 4000000000000000000)) : RootEnd n w (.returned (.tuple #[.int .i64 0, .int .i64 0, .int .i64 2])) w :=
  ⟨ret_int3 (by unfold rlo; rw [if_neg h]) (by unfold rhi; rw [if_neg h]) (by unfold rcode; rw [if_neg h]), rfl⟩
theorem rootEnd_yes {n a b : Int} {w : World} (h : 0 ≤ n) (g : n ≤ 4000000000000000000) (ha : a = rt n) (hb : b = rtup n) : RootEnd n w (.returned (.tuple #[.int .i64 a, .int .i64 b, .int .i64 0])) w :=
  ⟨ret_int3 (by unfold rlo; rw [if_pos ⟨h, g⟩, ha]) (by unfold rhi; rw [if_pos ⟨h, g⟩, hb]) (by unfold rcode; rw [if_pos ⟨h, g⟩]), rfl⟩
end Go.Proofs.Ytkjpjhklnaehbab
