/- Contracts of the program's ray: its scale, its cosines, whether it crosses a knot, its sines, its errors. Contracts of the program's ray: its sines, its errors. -/
import Derived.Test.YthfaejhiabdkbaaDir
import Derived.Test.YthfaejhiabdkbaaLys
import Derived.Test.YthfaejhiabdkbaaRoot
import Derived.Deep.RegionHeld3
import Derived.Deep.DeepCutAuto
import Derived.Deep.RegionWith
import Derived.Test.YthfaejhiabdkbaaDirI
namespace Go.Proofs.Ythfaejhiabdkbaa
open Go.ChangeShapes Go.WideShapes Go.ChangeAt Go.RowKit Go.Shelf Num
set_option linter.unusedVariables false

/-- six cells of a block and what lies below a world -/
def At6 (W w2 : World) (m : Nat) (v0 v1 v2 v3 v4 v5 : Value) : Prop :=
  w2.cell? ⟨m, 0, none⟩ = some v0 ∧ w2.cell? ⟨m, 1, none⟩ = some v1 ∧ w2.cell? ⟨m, 2, none⟩ = some v2 ∧ w2.cell? ⟨m, 3, none⟩ = some v3 ∧ w2.cell? ⟨m, 4, none⟩ = some v4 ∧ w2.cell? ⟨m, 5, none⟩ = some v5 ∧ Below W.heap.size W w2
theorem at6 {W w2 : World} {m : Nat} {v0 v1 v2 v3 v4 v5 : Value} {t : TypeId} (h : Bk W m #[v0, v1, v2, v3, v4, v5] t) (hb : Below W.heap.size W w2) :
    w2.cell? ⟨m, 0, none⟩ = some v0 ∧ w2.cell? ⟨m, 1, none⟩ = some v1 ∧ w2.cell? ⟨m, 2, none⟩ = some v2 ∧ w2.cell? ⟨m, 3, none⟩ = some v3 ∧ w2.cell? ⟨m, 4, none⟩ = some v4 ∧ w2.cell? ⟨m, 5, none⟩ = some v5 ∧ Below W.heap.size W w2 :=
  ⟨(h.on hb).cell 0 rfl, (h.on hb).cell 1 rfl, (h.on hb).cell 2 rfl, (h.on hb).cell 3 rfl, (h.on hb).cell 4 rfl, (h.on hb).cell 5 rfl, hb⟩
/-- the code of a profile, a direction, a source and a knot -/
def rcT (p d i k : Bool) : Int := if p && d then (if i && k then 0 else 2) else 1
theorem rcT_0 {p d i k : Bool} (e : rcT p d i k = 0) : p = true ∧ d = true ∧ i = true ∧ k = true := by cases p <;> cases d <;> cases i <;> cases k <;> simp_all [rcT]
theorem rcT_n {p d i k : Bool} (e : ¬ rcT p d i k = 0) : ¬ (p = true ∧ d = true ∧ i = true ∧ k = true) := by rintro ⟨rfl, rfl, rfl, rfl⟩; exact e rfl
theorem mul_in {a b A B : Int} (h1 : 0 ≤ a) (h2 : a ≤ A) (h3 : 0 ≤ b) (h4 : b ≤ B) : 0 ≤ a * b ∧ a * b ≤ A * B :=
  ⟨Int.mul_nonneg h1 h3, Int.mul_le_mul h2 h4 h3 (by omega)⟩

end Go.Proofs.Ythfaejhiabdkbaa
namespace Go.Proofs.Ythfaejhiabdkbaa
open Go.ChangeShapes Go.WideShapes Go.ChangeAt Go.RowKit Go.Shelf Num
set_option linter.unusedVariables false

end Go.Proofs.Ythfaejhiabdkbaa
