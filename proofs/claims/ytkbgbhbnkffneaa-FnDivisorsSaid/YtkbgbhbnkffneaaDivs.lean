/- Contracts of CommonDivisor, the program's and the model's, and the walk of its exact law. -/
import Derived.Test.YtkbgbhbnkffneaaGcd
namespace Go.Proofs.Ytkbgbhbnkffneaa
open Go.ChangeShapes Go.WideShapes Go.ChangeAt Go.RowKit Num
set_option linter.unusedVariables false
def gcode (a b : Int) : Int := if valB a && valB b then 0 else 2
def gval (a b : Int) : Int := if valB a && valB b then gc a b else 0

theorem icd_any (a b : Int) (w : World) :
    Calls Try.prog 19 #[.int .i64 a, .int .i64 b] w fun e w' => e = .returned (.tuple #[.int .i64 (gval a b), .int .i64 (gcode a b)]) ∧ ∃ n, w' = w.drewN n := by
  have HV : Hid (gval a b = if valB a && valB b then gc a b else 0) := Lib.hid rfl
  have HC : Hid (gcode a b = if valB a && valB b then 0 else 2) := Lib.hid rfl
  cases ha : valB a <;> cases hb : valB b
  case true.true =>
    obtain ⟨a1, a2⟩ := valB_t ha
    obtain ⟨b1, b2⟩ := valB_t hb
    go_enter Try.func19, Try.ntmps19
    go_wp2_with (first | (go_at_call 60; refine (isv_any _ _).mono ?_; rintro e w' ⟨rfl, rfl⟩) | (go_at_call 61; refine (igd_any _ _ (by omega) (by omega) (by omega) (by omega) _).mono ?_; rintro e w' ⟨rfl, nd, rfl⟩))
    go_ret2
    exact ⟨ret_int2 (by rw [HV.out]; simp [*]) (by rw [HC.out]; simp [*]), nd, rfl⟩
  all_goals
    go_enter Try.func19, Try.ntmps19
    go_wp2_with (go_at_call 60; refine (isv_any _ _).mono ?_; rintro e w' ⟨rfl, rfl⟩)
    go_ret2
    exact ⟨ret_int2 (by rw [HV.out]; simp [*]) (by rw [HC.out]; simp [*]), 0, rfl⟩

theorem scd_any (a b : Int) (w : World) :
    Calls Try.prog 20 #[.int .i64 a, .int .i64 b] w fun e w' => e = .returned (.tuple #[.int .i64 (gval a b), .int .i64 (gcode a b)]) ∧ ∃ n, w' = w.drewN n := by
  have HV : Hid (gval a b = if valB a && valB b then gc a b else 0) := Lib.hid rfl
  have HC : Hid (gcode a b = if valB a && valB b then 0 else 2) := Lib.hid rfl
  cases ha : valB a <;> cases hb : valB b
  case true.true =>
    obtain ⟨a1, a2⟩ := valB_t ha
    obtain ⟨b1, b2⟩ := valB_t hb
    go_enter Try.func20, Try.ntmps20
    go_wp2_with (first | (go_at_call 62; refine (isl_any _ _).mono ?_; rintro e w' ⟨rfl, rfl⟩) | (go_at_call 63; refine (ldv_any _ _ (by omega) (by omega) (by omega) (by omega) _).mono ?_; rintro e w' ⟨rfl, nd, rfl⟩))
    go_ret2
    exact ⟨ret_int2 (by rw [HV.out]; simp [*]) (by rw [HC.out]; simp [*]), nd, rfl⟩
  all_goals
    go_enter Try.func20, Try.ntmps20
    go_wp2_with (go_at_call 62; refine (isl_any _ _).mono ?_; rintro e w' ⟨rfl, rfl⟩)
    go_ret2
    exact ⟨ret_int2 (by rw [HV.out]; simp [*]) (by rw [HC.out]; simp [*]), 0, rfl⟩

theorem lcd (a0 : Int) (a1 : Int) (w0 : (Lit.int .i64 a0).wf = true) (w1 : (Lit.int .i64 a1).wf = true) (w : World) :
    Calls Try.prog 4 #[.int .i64 a0, .int .i64 a1] w fun e w' => e = .returned (.bool true) ∧ Below w.heap.size w w' := by
  clear w0 w1
  go_enter Try.func4, Try.ntmps4
  go_wp2_with (first | (go_at_call 19; refine (icd_any _ _ _).mono ?_; rintro e w' ⟨rfl, n1, rfl⟩) | (go_at_call 20; refine (scd_any _ _ _).mono ?_; rintro e w' ⟨rfl, n2, rfl⟩))
  go_ret
  exact ⟨rfl, below_drewN (Below.refl _ _) _⟩
end Go.Proofs.Ytkbgbhbnkffneaa
