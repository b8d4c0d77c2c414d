/- Contracts of the program's and of the model's integer helpers: values, codes of a division, quotients rounded down and up. -/
import Derived.Test.YtcaekheghjnipaaRows
import Derived.Test.YtcaekheghjnipaaNumB
import Derived.Test.YtcaekheghjnipaaNumMath
import Derived.WalkKit
import Derived.ProofKit
import Derived.OpenShut
import Derived.Outline
import Derived.Lib.Hide
namespace Go.Proofs.Ytcaekheghjnipaa
open Go.ChangeShapes Go.WideShapes Go.ChangeAt Go.RowKit Num
set_option linter.unusedVariables false

/-- the code of a division: 2 beside a number that is no value, 5 by 0, else 0 -/
def dcode (a b : Int) : Int := if valB a && valB b then (if b == 0 then 5 else 0) else 2
theorem dcode_0 {a b : Int} (h : dcode a b = 0) : valB a = true ∧ valB b = true ∧ b ≠ 0 := by
  unfold dcode at h; split at h
  · rename_i g; simp at g; split at h <;> simp_all
  · simp at h

theorem fq_any (a b : Int) (ha : -9000000000000000000 ≤ a) (ha' : a ≤ 9000000000000000000) (hb : -9000000000000000000 ≤ b) (hb' : b ≤ 9000000000000000000) (h0 : ¬ b = 0) (w : World) :
    Calls Try.prog 84 #[.int .i64 a, .int .i64 b] w fun e w' => e = .returned (.int .i64 (a.fdiv b)) ∧ w = w' := by
  have hd := tdiv_bd a b
  have hm := tmod_abs a b h0
  have l1 : -9000000000000000000 ≤ a.tdiv b := by omega
  have l2 : a.tdiv b ≤ 9000000000000000000 := by omega
  have l3 : -9000000000000000000 ≤ a.tmod b := by omega
  have l4 : a.tmod b ≤ 9000000000000000000 := by omega
  clear hd hm
  by_cases hr : a.tmod b = 0
  · have E := fdiv_same a b hr
    have HE := Lib.hid E; clear E
    go_enter Try.func84, Try.ntmps84
    go_wp2
    go_ret
    exact ⟨ret_int HE.out.symm, rfl⟩
  · by_cases h1 : a.tmod b < 0 <;> by_cases h2 : b < 0
    · have E := fdiv_alike a b hr (by simp [h1, h2])
      have HE := Lib.hid E; clear E
      go_enter Try.func84, Try.ntmps84
      go_wp2
      go_ret
      exact ⟨ret_int HE.out.symm, rfl⟩
    · have E := fdiv_unlike a b h0 hr (by simp [h1, h2])
      have HE := Lib.hid E; clear E
      go_enter Try.func84, Try.ntmps84
      go_wp2
      go_ret
      exact ⟨ret_int HE.out.symm, rfl⟩
    · have E := fdiv_unlike a b h0 hr (by simp [h1, h2])
      have HE := Lib.hid E; clear E
      go_enter Try.func84, Try.ntmps84
      go_wp2
      go_ret
      exact ⟨ret_int HE.out.symm, rfl⟩
    · have E := fdiv_alike a b hr (by simp [h1, h2])
      have HE := Lib.hid E; clear E
      go_enter Try.func84, Try.ntmps84
      go_wp2
      go_ret
      exact ⟨ret_int HE.out.symm, rfl⟩

theorem lfl_any (a b : Int) (ha : -9000000000000000000 ≤ a) (ha' : a ≤ 9000000000000000000) (hb : -9000000000000000000 ≤ b) (hb' : b ≤ 9000000000000000000) (h0 : ¬ b = 0) (w : World) :
    Calls Try.prog 88 #[.int .i64 a, .int .i64 b] w fun e w' => e = .returned (.int .i64 (a.fdiv b)) ∧ w = w' := by
  have hd := tdiv_bd a b
  have hs := tmod_sgn a b
  have l1 : -9000000000000000000 ≤ a.tdiv b := by omega
  have l2 : a.tdiv b ≤ 9000000000000000000 := by omega
  clear hd
  by_cases hr : a.tmod b = 0
  · have E := fdiv_same a b hr
    have HE := Lib.hid E; clear E hs
    go_enter Try.func88, Try.ntmps88
    go_wp2
    go_ret
    exact ⟨ret_int HE.out.symm, rfl⟩
  · by_cases h1 : a < 0 <;> by_cases h2 : b < 0
    · have E := fdiv_alike a b hr (by have := hs.2 (by omega); simp [h2]; omega)
      have HE := Lib.hid E; clear E hs
      go_enter Try.func88, Try.ntmps88
      go_wp2
      go_ret
      exact ⟨ret_int HE.out.symm, rfl⟩
    · have E := fdiv_unlike a b h0 hr (by have := hs.2 (by omega); simp [h2]; omega)
      have HE := Lib.hid E; clear E hs
      go_enter Try.func88, Try.ntmps88
      go_wp2
      go_ret
      exact ⟨ret_int HE.out.symm, rfl⟩
    · have E := fdiv_unlike a b h0 hr (by have := hs.1 (by omega); simp [h2]; omega)
      have hr2 : ¬ a % b = 0 := by rw [← Int.tmod_eq_emod_of_nonneg (by omega)]; exact hr
      have HE := Lib.hid E; clear E hs
      go_enter Try.func88, Try.ntmps88
      go_wp2
      go_ret
      exact ⟨ret_int HE.out.symm, rfl⟩
    · have E := fdiv_alike a b hr (by have := hs.1 (by omega); simp [h2]; omega)
      have hr2 : ¬ a % b = 0 := by rw [← Int.tmod_eq_emod_of_nonneg (by omega)]; exact hr
      have HE := Lib.hid E; clear E hs
      go_enter Try.func88, Try.ntmps88
      go_wp2
      go_ret
      exact ⟨ret_int HE.out.symm, rfl⟩

/-- the quotient rounded up -/
def cdiv (a b : Int) : Int := -((-a).fdiv b)
theorem lce_any (a b : Int) (ha : -9000000000000000000 ≤ a) (ha' : a ≤ 9000000000000000000) (hb : -9000000000000000000 ≤ b) (hb' : b ≤ 9000000000000000000) (h0 : ¬ b = 0) (w : World) :
    Calls Try.prog 89 #[.int .i64 a, .int .i64 b] w fun e w' => e = .returned (.int .i64 (cdiv a b)) ∧ w = w' := by
  have hd := fdiv_bd (-a) b
  have l1 : -9000000000000000001 ≤ (-a).fdiv b := by omega
  have l2 : (-a).fdiv b ≤ 9000000000000000000 := by omega
  clear hd
  go_enter Try.func89, Try.ntmps89
  go_wp2_with (go_at_call 88; refine (lfl_any _ _ (by omega) (by omega) (by omega) (by omega) h0 _).mono ?_; rintro e w' ⟨rfl, rfl⟩)
  go_ret
  exact ⟨ret_int rfl, rfl⟩

theorem cq_any (a b : Int) (ha : -9000000000000000000 ≤ a) (ha' : a ≤ 9000000000000000000) (hb : -9000000000000000000 ≤ b) (hb' : b ≤ 9000000000000000000) (h0 : ¬ b = 0) (w : World) :
    Calls Try.prog 85 #[.int .i64 a, .int .i64 b] w fun e w' => e = .returned (.int .i64 (cdiv a b)) ∧ w = w' := by
  have hd := fdiv_bd (-a) b
  have l1 : -9000000000000000001 ≤ (-a).fdiv b := by omega
  have l2 : (-a).fdiv b ≤ 9000000000000000000 := by omega
  clear hd
  go_enter Try.func85, Try.ntmps85
  go_wp2_with (go_at_call 84; refine (fq_any _ _ (by omega) (by omega) (by omega) (by omega) h0 _).mono ?_; rintro e w' ⟨rfl, rfl⟩)
  go_ret
  exact ⟨ret_int rfl, rfl⟩

end Go.Proofs.Ytcaekheghjnipaa
