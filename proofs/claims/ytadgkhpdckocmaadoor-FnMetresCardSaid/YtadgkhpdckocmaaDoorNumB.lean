/- Contracts of values, ranges and absolute values, the program's and the model's. -/
import Derived.Test.YtadgkhpdckocmaaDoorRows
import Derived.WalkKit
import Derived.ProofKit
import Derived.OpenShut
import Derived.Below
import Derived.Lib.Hide
namespace Go.Proofs.YtadgkhpdckocmaaDoor
open Go.ChangeShapes Go.WideShapes Go.ChangeAt Go.RowKit
set_option linter.unusedVariables false
/-- a value: an integer from -10^12 to 10^12 -/
def valB (x : Int) : Bool := decide (-1000000000000 ≤ x ∧ x ≤ 1000000000000)
theorem valB_t {x : Int} (h : valB x = true) : -1000000000000 ≤ x ∧ x ≤ 1000000000000 := by unfold valB at h; exact of_decide_eq_true h
theorem valB_f {x : Int} (h : valB x = false) : x < -1000000000000 ∨ 1000000000000 < x := by
  unfold valB at h; have := of_decide_eq_false h; omega
theorem valB_mk {x : Int} (h : -1000000000000 ≤ x) (g : x ≤ 1000000000000) : valB x = true := by unfold valB; exact decide_eq_true ⟨h, g⟩
theorem valB_lo {x : Int} (h : x < -1000000000000) : valB x = false := by unfold valB; exact decide_eq_false (by omega)
theorem valB_hi {x : Int} (h : 1000000000000 < x) : valB x = false := by unfold valB; exact decide_eq_false (by omega)

theorem ret_int {k : IntKind} {a b : Int} (h : a = b) : Ending.returned (.int k a) = .returned (.int k b) := by rw [h]
theorem ret_bool {a b : Bool} (h : a = b) : Ending.returned (.bool a) = .returned (.bool b) := by rw [h]
theorem isv_any (x : Int) (w : World) :
    Calls Tryd.prog 15 #[.int .i64 x] w fun e w' => e = .returned (.bool (valB x)) ∧ w = w' := by
  by_cases h1 : x < -1000000000000
  · go_enter Tryd.func15, Tryd.ntmps15
    go_wp2
    go_ret
    exact ⟨ret_bool (by rw [valB_lo h1]), rfl⟩
  · by_cases h2 : 1000000000000 < x
    · go_enter Tryd.func15, Tryd.ntmps15
      go_wp2
      go_ret
      exact ⟨ret_bool (by rw [valB_hi h2]; exact decide_eq_false (by omega)), rfl⟩
    · go_enter Tryd.func15, Tryd.ntmps15
      go_wp2
      go_ret
      exact ⟨ret_bool (by rw [valB_mk (by omega) (by omega)]), rfl⟩

theorem isl_any (x : Int) (w : World) :
    Calls Tryd.prog 21 #[.int .i64 x] w fun e w' => e = .returned (.bool (valB x)) ∧ w = w' := by
  by_cases h1 : x < -1000000000000
  · go_enter Tryd.func21, Tryd.ntmps21
    go_wp2
    go_ret
    exact ⟨ret_bool (by rw [valB_lo h1]), rfl⟩
  · by_cases h2 : 1000000000000 < x
    · go_enter Tryd.func21, Tryd.ntmps21
      go_wp2
      go_ret
      exact ⟨ret_bool (by rw [valB_hi h2]; exact decide_eq_false (by omega)), rfl⟩
    · go_enter Tryd.func21, Tryd.ntmps21
      go_wp2
      go_ret
      exact ⟨ret_bool (by rw [valB_mk (by omega) (by omega)]), rfl⟩

theorem abs_any (a : Int) (ha : -9000000000000000000 ≤ a) (ha' : a ≤ 9000000000000000000) (w : World) :
    Calls Tryd.prog 16 #[.int .i64 a] w fun e w' => e = .returned (.int .i64 (a.natAbs : Int)) ∧ w = w' := by
  by_cases h : a < 0
  · go_enter Tryd.func16, Tryd.ntmps16
    go_wp2
    go_ret
    exact ⟨ret_int (by omega), rfl⟩
  · go_enter Tryd.func16, Tryd.ntmps16
    go_wp2
    go_ret
    exact ⟨ret_int (by omega), rfl⟩

theorem lab_any (a : Int) (ha : -9000000000000000000 ≤ a) (ha' : a ≤ 9000000000000000000) (w : World) :
    Calls Tryd.prog 22 #[.int .i64 a] w fun e w' => e = .returned (.int .i64 (a.natAbs : Int)) ∧ w = w' := by
  by_cases h : a < 0
  · go_enter Tryd.func22, Tryd.ntmps22
    go_wp2
    go_ret
    exact ⟨ret_int (by omega), rfl⟩
  · go_enter Tryd.func22, Tryd.ntmps22
    go_wp2
    go_ret
    exact ⟨ret_int (by omega), rfl⟩
end Go.Proofs.YtadgkhpdckocmaaDoor
