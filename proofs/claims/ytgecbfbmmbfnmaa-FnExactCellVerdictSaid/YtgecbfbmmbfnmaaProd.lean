/- Contracts of ProductInterval, the program's and the model's. -/
import Derived.Test.YtgecbfbmmbfnmaaCorn
import Derived.Test.YtgecbfbmmbfnmaaBas
namespace Go.Proofs.Ytgecbfbmmbfnmaa
open Go.ChangeShapes Go.WideShapes Go.ChangeAt Go.RowKit Num
set_option linter.unusedVariables false
/-- the bounds are small -/
def smallB (a b : Int) : Bool := decide (-1000000 ≤ a) && decide (b ≤ 1000000)
theorem small_t {a b : Int} (h : smallB a b = true) (hv : vldB a b = true) : a.natAbs ≤ 1000000 ∧ b.natAbs ≤ 1000000 := by
  unfold smallB at h
  simp only [Bool.and_eq_true, decide_eq_true_eq] at h
  have := vldB_t hv
  omega
def mn4 (p q r s : Int) : Int := mnTo [p, q, r, s] 3
def mx4 (p q r s : Int) : Int := mxTo [p, q, r, s] 3
section
variable {P : Program} {w : World}
theorem run_min_four (ts : Array TypeId) (t : TypeId) (x y z u : Int) : (Builtin.min_ ts t #[.int .i64 x, .int .i64 y, .int .i64 z, .int .i64 u]).run P w = .ok (.int .i64 (mn4 x y z u)) w := by
  simp [Builtin.min_, Builtin.min2, mn4, mnTo]
theorem run_max_four (ts : Array TypeId) (t : TypeId) (x y z u : Int) : (Builtin.max_ ts t #[.int .i64 x, .int .i64 y, .int .i64 z, .int .i64 u]).run P w = .ok (.int .i64 (mx4 x y z u)) w := by
  simp [Builtin.max_, Builtin.max2, mx4, mxTo]
end
attribute [local go_sem] run_min_four run_max_four
theorem anyLack4 {a b c d : Int} (h1 : a ≤ b) (h2 : c ≤ d) : anyLack (-1000000) 1000000 [a, b, c, d] = !(smallB a b && smallB c d) := by
  unfold anyLack smallB hasB
  rw [Bool.eq_iff_iff]
  simp
  omega
theorem ints4_at {W : World} {B g : Nat} {p q r s : Int} (hg : g < B) (h0 : W.cell? ⟨g, 0, none⟩ = some (.int .i64 p)) (h1 : W.cell? ⟨g, 1, none⟩ = some (.int .i64 q)) (h2 : W.cell? ⟨g, 2, none⟩ = some (.int .i64 r)) (h3 : W.cell? ⟨g, 3, none⟩ = some (.int .i64 s)) :
    Ints .i64 W B (some ⟨g, 0, none⟩) [p, q, r, s] :=
  fun _ => ⟨g, 0, rfl, hg, fun j hj => by
    have hj4 : j < 4 := hj
    match j, hj4 with
    | 0, _ => exact h0
    | 1, _ => exact h1
    | 2, _ => exact h2
    | 3, _ => exact h3⟩
theorem min4_any (w : World) (B g : Nat) (p q r s : Int) (hz : Ints .i64 w B (some ⟨g, 0, none⟩) [p, q, r, s]) :
    Calls Try.prog 109 #[.slice (some ⟨g, 0, none⟩) 4 4] w fun e w' => e = .returned (.int .i64 (mn4 p q r s)) ∧ w = w' := mini_any w B _ 4 [p, q, r, s] (by simp) (by simp) hz
theorem max4_any (w : World) (B g : Nat) (p q r s : Int) (hz : Ints .i64 w B (some ⟨g, 0, none⟩) [p, q, r, s]) :
    Calls Try.prog 112 #[.slice (some ⟨g, 0, none⟩) 4 4] w fun e w' => e = .returned (.int .i64 (mx4 p q r s)) ∧ w = w' := maxi_any w B _ 4 [p, q, r, s] (by simp) (by simp) hz
theorem cf4_any (w : World) (g : Nat) (p q r s lo hi : Int) (hz : Ints .i64 w w.heap.size (some ⟨g, 0, none⟩) [p, q, r, s]) :
    Calls Try.prog 68 #[.slice (some ⟨g, 0, none⟩) 4 4, .func (.func 35) #[.agg #[.int .i64 lo, .int .i64 hi]] #[]] w fun e w' => e = .returned (.bool (anyLack lo hi [p, q, r, s])) ∧ Below w.heap.size w w' := cfl_any w _ 4 [p, q, r, s] lo hi (by simp) hz
/-- the product -/
def prdT (a b c d : Int) : Int × Int × Int := if vldB a b && vldB c d then (if smallB a b && smallB c d then within (mn4 (a * c) (a * d) (b * c) (b * d)) (mx4 (a * c) (a * d) (b * c) (b * d)) else (0, 0, 2)) else (0, 0, 1)
theorem prdT_ok {a b c d : Int} (h1 : (vldB a b && vldB c d) = true) (h2 : (smallB a b && smallB c d) = true) : prdT a b c d = within (mn4 (a * c) (a * d) (b * c) (b * d)) (mx4 (a * c) (a * d) (b * c) (b * d)) := by unfold prdT; rw [if_pos h1, if_pos h2]
theorem prdT_big {a b c d : Int} (h1 : (vldB a b && vldB c d) = true) (h2 : (smallB a b && smallB c d) = false) : prdT a b c d = (0, 0, 2) := by unfold prdT; rw [if_pos h1, h2]; rfl
theorem prdT_bad {a b c d : Int} (h1 : (vldB a b && vldB c d) = false) : prdT a b c d = (0, 0, 1) := by unfold prdT; rw [h1]; rfl
theorem prd_facts {a b c d : Int} (h1 : a.natAbs ≤ 1000000) (h2 : b.natAbs ≤ 1000000) (h3 : c.natAbs ≤ 1000000) (h4 : d.natAbs ≤ 1000000) :
    (-1000000000000 ≤ a * c ∧ a * c ≤ 1000000000000) ∧ (-1000000000000 ≤ a * d ∧ a * d ≤ 1000000000000) ∧ (-1000000000000 ≤ b * c ∧ b * c ≤ 1000000000000) ∧ (-1000000000000 ≤ b * d ∧ b * d ≤ 1000000000000) := by
  have := mul_abs h1 h3
  have := mul_abs h1 h4
  have := mul_abs h2 h3
  have := mul_abs h2 h4
  omega

end Go.Proofs.Ytgecbfbmmbfnmaa
