/- Contracts of the program's and of the model's integer helpers: values, codes of a division, quotients rounded down and up. -/
import Derived.Test.YtadgkhpdckocmaaRows
import Derived.Test.YtadgkhpdckocmaaNumMath
import Derived.WalkKit
import Derived.ProofKit
import Derived.OpenShut
import Derived.Outline
import Derived.Lib.Hide
namespace Go.Proofs.Ytadgkhpdckocmaa
open Go.ChangeShapes Go.WideShapes Go.ChangeAt Go.RowKit Num
set_option linter.unusedVariables false

/-- a value: an integer from -10^12 to 10^12 -/
def valB (x : Int) : Bool := decide (-1000000000000 ≤ x ∧ x ≤ 1000000000000)
theorem valB_t {x : Int} (h : valB x = true) : -1000000000000 ≤ x ∧ x ≤ 1000000000000 := by unfold valB at h; exact of_decide_eq_true h
theorem valB_f {x : Int} (h : valB x = false) : x < -1000000000000 ∨ 1000000000000 < x := by
  unfold valB at h; have := of_decide_eq_false h; omega
theorem valB_mk {x : Int} (h : -1000000000000 ≤ x) (g : x ≤ 1000000000000) : valB x = true := by unfold valB; exact decide_eq_true ⟨h, g⟩
theorem valB_lo {x : Int} (h : x < -1000000000000) : valB x = false := by unfold valB; exact decide_eq_false (by omega)
theorem valB_hi {x : Int} (h : 1000000000000 < x) : valB x = false := by unfold valB; exact decide_eq_false (by omega)

theorem ret_int {k : IntKind} {a b : Int} (h : a = b) : Ending.returned (.int k a) = .returned (.int k b) := by rw [h]
theorem ret_bool {a b : Bool} (h : a = b) : Ending.returned (.bool a) = .returned (.bool b) := by rw [h]

/-- a number of a range -/
def inB (n lo hi : Int) : Bool := decide (lo ≤ n ∧ n ≤ hi)
theorem inB_t {n lo hi : Int} (h : inB n lo hi = true) : lo ≤ n ∧ n ≤ hi := by unfold inB at h; exact of_decide_eq_true h
theorem inB_mk {n lo hi : Int} (h : lo ≤ n) (g : n ≤ hi) : inB n lo hi = true := by unfold inB; exact decide_eq_true ⟨h, g⟩
theorem inB_f {n lo hi : Int} (h : inB n lo hi = false) : n < lo ∨ hi < n := by
  unfold inB at h; have := of_decide_eq_false h; omega
theorem inB_lo {n lo hi : Int} (h : n < lo) : inB n lo hi = false := by unfold inB; exact decide_eq_false (by omega)
theorem inB_hi {n lo hi : Int} (h : hi < n) : inB n lo hi = false := by unfold inB; exact decide_eq_false (by omega)
theorem lin_any (n lo hi : Int) (w : World) :
    Calls Try.prog 51 #[.int .i64 n, .int .i64 lo, .int .i64 hi] w fun e w' => e = .returned (.bool (inB n lo hi)) ∧ w = w' := by
  by_cases h1 : n < lo
  · go_enter Try.func51, Try.ntmps51
    go_wp2
    go_ret
    exact ⟨ret_bool (by rw [inB_lo h1]), rfl⟩
  · by_cases h2 : hi < n
    · go_enter Try.func51, Try.ntmps51
      go_wp2
      go_ret
      exact ⟨ret_bool (by rw [inB_hi h2]; exact decide_eq_false (by omega)), rfl⟩
    · go_enter Try.func51, Try.ntmps51
      go_wp2
      go_ret
      exact ⟨ret_bool (by rw [inB_mk (by omega) (by omega)]), rfl⟩

theorem isv_any (x : Int) (w : World) :
    Calls Try.prog 42 #[.int .i64 x] w fun e w' => e = .returned (.bool (valB x)) ∧ w = w' := by
  by_cases h1 : x < -1000000000000
  · go_enter Try.func42, Try.ntmps42
    go_wp2
    go_ret
    exact ⟨ret_bool (by rw [valB_lo h1]), rfl⟩
  · by_cases h2 : 1000000000000 < x
    · go_enter Try.func42, Try.ntmps42
      go_wp2
      go_ret
      exact ⟨ret_bool (by rw [valB_hi h2]; exact decide_eq_false (by omega)), rfl⟩
    · go_enter Try.func42, Try.ntmps42
      go_wp2
      go_ret
      exact ⟨ret_bool (by rw [valB_mk (by omega) (by omega)]), rfl⟩

theorem isl_any (x : Int) (w : World) :
    Calls Try.prog 43 #[.int .i64 x] w fun e w' => e = .returned (.bool (valB x)) ∧ w = w' := by
  by_cases h1 : x < -1000000000000
  · go_enter Try.func43, Try.ntmps43
    go_wp2
    go_ret
    exact ⟨ret_bool (by rw [valB_lo h1]), rfl⟩
  · by_cases h2 : 1000000000000 < x
    · go_enter Try.func43, Try.ntmps43
      go_wp2
      go_ret
      exact ⟨ret_bool (by rw [valB_hi h2]; exact decide_eq_false (by omega)), rfl⟩
    · go_enter Try.func43, Try.ntmps43
      go_wp2
      go_ret
      exact ⟨ret_bool (by rw [valB_mk (by omega) (by omega)]), rfl⟩

/-- the code of a division: 2 beside a number that is no value, 5 by 0, else 0 -/
def dcode (a b : Int) : Int := if valB a && valB b then (if b == 0 then 5 else 0) else 2
theorem dcode_0 {a b : Int} (h : dcode a b = 0) : valB a = true ∧ valB b = true ∧ b ≠ 0 := by
  unfold dcode at h; split at h
  · rename_i g; simp at g; split at h <;> simp_all
  · simp at h

theorem diverr_any (a b : Int) (w : World) :
    Calls Try.prog 35 #[.int .i64 a, .int .i64 b] w fun e w' => e = .returned (.int .i64 (dcode a b)) ∧ w = w' := by
  cases ha : valB a <;> cases hb : valB b <;> cases h0 : (b == 0)
  all_goals
    go_enter Try.func35, Try.ntmps35
    go_wp2_with (go_at_call 42; refine (isv_any _ _).mono ?_; rintro e w' ⟨rfl, rfl⟩)
    go_ret
    exact ⟨ret_int (by unfold dcode; rw [ha, hb, h0]; rfl), rfl⟩

theorem ldiv_any (a b : Int) (w : World) :
    Calls Try.prog 37 #[.int .i64 a, .int .i64 b] w fun e w' => e = .returned (.int .i64 (dcode a b)) ∧ w = w' := by
  cases ha : valB a <;> cases hb : valB b <;> cases h0 : (b == 0)
  all_goals
    go_enter Try.func37, Try.ntmps37
    go_wp2_with (go_at_call 43; refine (isl_any _ _).mono ?_; rintro e w' ⟨rfl, rfl⟩)
    go_ret
    exact ⟨ret_int (by unfold dcode; rw [ha, hb, h0]; rfl), rfl⟩

theorem fq_any (a b : Int) (ha : -9000000000000000000 ≤ a) (ha' : a ≤ 9000000000000000000) (hb : -9000000000000000000 ≤ b) (hb' : b ≤ 9000000000000000000) (h0 : ¬ b = 0) (w : World) :
    Calls Try.prog 36 #[.int .i64 a, .int .i64 b] w fun e w' => e = .returned (.int .i64 (a.fdiv b)) ∧ w = w' := by
  have hd := tdiv_bd a b
  have hm := tmod_abs a b h0
  have l1 : -9000000000000000000 ≤ a.tdiv b := by omega
  have l2 : a.tdiv b ≤ 9000000000000000000 := by omega
  have l3 : -9000000000000000000 ≤ a.tmod b := by omega
  have l4 : a.tmod b ≤ 9000000000000000000 := by omega
  clear hd hm
  by_cases hr : a.tmod b = 0
  · have E := fdiv_same a b hr
    have HE := Lib.hid E; clear E
    go_enter Try.func36, Try.ntmps36
    go_wp2
    go_ret
    exact ⟨ret_int HE.out.symm, rfl⟩
  · by_cases h1 : a.tmod b < 0 <;> by_cases h2 : b < 0
    · have E := fdiv_alike a b hr (by simp [h1, h2])
      have HE := Lib.hid E; clear E
      go_enter Try.func36, Try.ntmps36
      go_wp2
      go_ret
      exact ⟨ret_int HE.out.symm, rfl⟩
    · have E := fdiv_unlike a b h0 hr (by simp [h1, h2])
      have HE := Lib.hid E; clear E
      go_enter Try.func36, Try.ntmps36
      go_wp2
      go_ret
      exact ⟨ret_int HE.out.symm, rfl⟩
    · have E := fdiv_unlike a b h0 hr (by simp [h1, h2])
      have HE := Lib.hid E; clear E
      go_enter Try.func36, Try.ntmps36
      go_wp2
      go_ret
      exact ⟨ret_int HE.out.symm, rfl⟩
    · have E := fdiv_alike a b hr (by simp [h1, h2])
      have HE := Lib.hid E; clear E
      go_enter Try.func36, Try.ntmps36
      go_wp2
      go_ret
      exact ⟨ret_int HE.out.symm, rfl⟩

theorem lfl_any (a b : Int) (ha : -9000000000000000000 ≤ a) (ha' : a ≤ 9000000000000000000) (hb : -9000000000000000000 ≤ b) (hb' : b ≤ 9000000000000000000) (h0 : ¬ b = 0) (w : World) :
    Calls Try.prog 38 #[.int .i64 a, .int .i64 b] w fun e w' => e = .returned (.int .i64 (a.fdiv b)) ∧ w = w' := by
  have hd := tdiv_bd a b
  have hs := tmod_sgn a b
  have l1 : -9000000000000000000 ≤ a.tdiv b := by omega
  have l2 : a.tdiv b ≤ 9000000000000000000 := by omega
  clear hd
  by_cases hr : a.tmod b = 0
  · have E := fdiv_same a b hr
    have HE := Lib.hid E; clear E hs
    go_enter Try.func38, Try.ntmps38
    go_wp2
    go_ret
    exact ⟨ret_int HE.out.symm, rfl⟩
  · by_cases h1 : a < 0 <;> by_cases h2 : b < 0
    · have E := fdiv_alike a b hr (by have := hs.2 (by omega); simp [h2]; omega)
      have HE := Lib.hid E; clear E hs
      go_enter Try.func38, Try.ntmps38
      go_wp2
      go_ret
      exact ⟨ret_int HE.out.symm, rfl⟩
    · have E := fdiv_unlike a b h0 hr (by have := hs.2 (by omega); simp [h2]; omega)
      have HE := Lib.hid E; clear E hs
      go_enter Try.func38, Try.ntmps38
      go_wp2
      go_ret
      exact ⟨ret_int HE.out.symm, rfl⟩
    · have E := fdiv_unlike a b h0 hr (by have := hs.1 (by omega); simp [h2]; omega)
      have hr2 : ¬ a % b = 0 := by rw [← Int.tmod_eq_emod_of_nonneg (by omega)]; exact hr
      have HE := Lib.hid E; clear E hs
      go_enter Try.func38, Try.ntmps38
      go_wp2
      go_ret
      exact ⟨ret_int HE.out.symm, rfl⟩
    · have E := fdiv_alike a b hr (by have := hs.1 (by omega); simp [h2]; omega)
      have hr2 : ¬ a % b = 0 := by rw [← Int.tmod_eq_emod_of_nonneg (by omega)]; exact hr
      have HE := Lib.hid E; clear E hs
      go_enter Try.func38, Try.ntmps38
      go_wp2
      go_ret
      exact ⟨ret_int HE.out.symm, rfl⟩

/-- the quotient rounded up -/
def cdiv (a b : Int) : Int := -((-a).fdiv b)
theorem lce_any (a b : Int) (ha : -9000000000000000000 ≤ a) (ha' : a ≤ 9000000000000000000) (hb : -9000000000000000000 ≤ b) (hb' : b ≤ 9000000000000000000) (h0 : ¬ b = 0) (w : World) :
    Calls Try.prog 39 #[.int .i64 a, .int .i64 b] w fun e w' => e = .returned (.int .i64 (cdiv a b)) ∧ w = w' := by
  have hd := fdiv_bd (-a) b
  have l1 : -9000000000000000001 ≤ (-a).fdiv b := by omega
  have l2 : (-a).fdiv b ≤ 9000000000000000000 := by omega
  clear hd
  go_enter Try.func39, Try.ntmps39
  go_wp2_with (go_at_call 38; refine (lfl_any _ _ (by omega) (by omega) (by omega) (by omega) h0 _).mono ?_; rintro e w' ⟨rfl, rfl⟩)
  go_ret
  exact ⟨ret_int rfl, rfl⟩

theorem abs_any (a : Int) (ha : -9000000000000000000 ≤ a) (ha' : a ≤ 9000000000000000000) (w : World) :
    Calls Try.prog 40 #[.int .i64 a] w fun e w' => e = .returned (.int .i64 (a.natAbs : Int)) ∧ w = w' := by
  by_cases h : a < 0
  · go_enter Try.func40, Try.ntmps40
    go_wp2
    go_ret
    exact ⟨ret_int (by omega), rfl⟩
  · go_enter Try.func40, Try.ntmps40
    go_wp2
    go_ret
    exact ⟨ret_int (by omega), rfl⟩

theorem lab_any (a : Int) (ha : -9000000000000000000 ≤ a) (ha' : a ≤ 9000000000000000000) (w : World) :
    Calls Try.prog 56 #[.int .i64 a] w fun e w' => e = .returned (.int .i64 (a.natAbs : Int)) ∧ w = w' := by
  by_cases h : a < 0
  · go_enter Try.func56, Try.ntmps56
    go_wp2
    go_ret
    exact ⟨ret_int (by omega), rfl⟩
  · go_enter Try.func56, Try.ntmps56
    go_wp2
    go_ret
    exact ⟨ret_int (by omega), rfl⟩
end Go.Proofs.Ytadgkhpdckocmaa
