/- Contracts of valid fractions and of lowest terms, the program's and the model's. Contracts of the sum, the product, the mediant, the inverse of fractions, of made and compared ones and of bounds of multiples, the program's and the model's. The walks of the exact laws of IsRatio, MakeRatio, InvertRatio and RatioBounds: each returns true and writes nothing that was there. -/
import Derived.Test.YtlahgdhofakinaaBas
namespace Go.Proofs.Ytlahgdhofakinaa
open Go.ChangeShapes Go.WideShapes Go.ChangeAt Go.RowKit Num
set_option linter.unusedVariables false

theorem mkT_y {n d p q : Int} (hp : lowN n d = p) (hq : lowD n d = q) (h : ratB p q = true) : mkT n d = (p, q, 0) := by unfold mkT; rw [hp, hq, h]; rfl
theorem mkT_n {n d p q : Int} (hp : lowN n d = p) (hq : lowD n d = q) (h : ratB p q = false) : mkT n d = (0, 0, 2) := by unfold mkT; rw [hp, hq, h]; rfl
end Go.Proofs.Ytlahgdhofakinaa
namespace Go.Proofs.Ytlahgdhofakinaa
open Go.ChangeShapes Go.WideShapes Go.ChangeAt Go.RowKit Num
set_option linter.unusedVariables false
theorem kp1 {W w2 : World} {m o : Nat} {v0 : Value} (c0 : W.cell? ⟨m, o, none⟩ = some v0) (h : Below W.heap.size W w2) : w2.cell? ⟨m, o, none⟩ = some v0 := (h.cell (p := ⟨m, o, none⟩) (World.block_lt_of_cell? W _ c0)).trans c0
theorem kp_fr {W w2 : World} {m o : Nat} {v0 : Value} {b : Bool} (f0 : W.frozen? ⟨m, o, none⟩ = b) (c0 : W.cell? ⟨m, o, none⟩ = some v0) (h : Below W.heap.size W w2) : w2.frozen? ⟨m, o, none⟩ = b := (h.frozen (p := ⟨m, o, none⟩) (World.block_lt_of_cell? W _ c0)).trans f0
/-- the fraction of two numbers -/
def madT (n d : Int) : Int × Int × Int := if dcode n d = 0 then mkT n d else (0, 0, dcode n d)
theorem madT_no {n d c : Int} (h : dcode n d = c) (g : ¬ c = 0) : madT n d = (0, 0, c) := by unfold madT; rw [h, if_neg g]
theorem madT_ok {n d : Int} (h : dcode n d = 0) : madT n d = mkT n d := by unfold madT; rw [if_pos h]
theorem dcode_cases (n d : Int) : dcode n d = 0 ∨ dcode n d = 2 ∨ dcode n d = 5 := by
  unfold dcode; split
  · split <;> simp
  · simp
end Go.Proofs.Ytlahgdhofakinaa
namespace Go.Proofs.Ytlahgdhofakinaa
open Go.ChangeShapes Go.WideShapes Go.ChangeAt Go.RowKit Num
set_option linter.unusedVariables false
end Go.Proofs.Ytlahgdhofakinaa
