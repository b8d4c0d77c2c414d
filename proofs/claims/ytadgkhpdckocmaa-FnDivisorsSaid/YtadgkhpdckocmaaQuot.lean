/- Contracts of QuotientBounds and NearestQuotient, the program's and the model's: both hand back the same numbers at every pair of integers. -/
import Derived.Test.YtadgkhpdckocmaaNum
namespace Go.Proofs.Ytadgkhpdckocmaa
open Go.ChangeShapes Go.WideShapes Go.ChangeAt Go.RowKit Num
set_option linter.unusedVariables false
theorem ret_int3 {a b c a' b' c' : Int} (h : a = a') (h2 : b = b') (h3 : c = c') : Ending.returned (.tuple #[.int .i64 a, .int .i64 b, .int .i64 c]) = .returned (.tuple #[.int .i64 a', .int .i64 b', .int .i64 c']) := by rw [h, h2, h3]
theorem ret_int2 {a b a' b' : Int} (h : a = a') (h2 : b = b') : Ending.returned (.tuple #[.int .i64 a, .int .i64 b]) = .returned (.tuple #[.int .i64 a', .int .i64 b']) := by rw [h, h2]
def qlo (a b : Int) : Int := if dcode a b = 0 then a.fdiv b else 0
def qhi (a b : Int) : Int := if dcode a b = 0 then cdiv a b else 0

theorem iqb_any (a b : Int) (w : World) :
    Calls Try.prog 14 #[.int .i64 a, .int .i64 b] w fun e w' => e = .returned (.tuple #[.int .i64 (qlo a b), .int .i64 (qhi a b), .int .i64 (dcode a b)]) ∧ w = w' := by
  by_cases h : dcode a b = 0
  · obtain ⟨va, vb, h0⟩ := dcode_0 h
    obtain ⟨a1, a2⟩ := valB_t va
    obtain ⟨b1, b2⟩ := valB_t vb
    have hq := fdiv_bd a b
    have hm := fdiv_mul_bd a b h0
    have q1 : -1000000000001 ≤ a.fdiv b := by omega
    have q2 : a.fdiv b ≤ 1000000000000 := by omega
    have m1 : -3000000000000 ≤ a.fdiv b * b := by rw [Int.mul_comm]; omega
    have m2 : a.fdiv b * b ≤ 3000000000000 := by rw [Int.mul_comm]; omega
    have hc := cdiv_eq a b h0
    have HL : Hid (qlo a b = a.fdiv b) := Lib.hid (by unfold qlo; rw [if_pos h])
    have HU : Hid (qhi a b = if b * a.fdiv b = a then a.fdiv b else a.fdiv b + 1) := Lib.hid (by unfold qhi; rw [if_pos h]; exact hc)
    have HD := Lib.hid h
    clear hq hm hc h va vb
    by_cases he : b * a.fdiv b = a
    · have HE := Lib.hid he
      have hb' : (a.fdiv b * b == a) = true := by rw [Int.mul_comm]; simpa using he
      clear he
      go_enter Try.func14, Try.ntmps14
      go_wp2_with (first | (go_at_call 35; refine (diverr_any _ _ _).mono ?_; rw [HD.out]; rintro e w' ⟨rfl, rfl⟩) | (go_at_call 36; refine (fq_any _ _ (by omega) (by omega) (by omega) (by omega) h0 _).mono ?_; rintro e w' ⟨rfl, rfl⟩))
      go_ret3
      exact ⟨ret_int3 HL.out.symm (by rw [HU.out, if_pos HE.out]) HD.out.symm, rfl⟩
    · have HE := Lib.hid he
      have hb' : (a.fdiv b * b == a) = false := by rw [Int.mul_comm]; simpa using he
      clear he
      go_enter Try.func14, Try.ntmps14
      go_wp2_with (first | (go_at_call 35; refine (diverr_any _ _ _).mono ?_; rw [HD.out]; rintro e w' ⟨rfl, rfl⟩) | (go_at_call 36; refine (fq_any _ _ (by omega) (by omega) (by omega) (by omega) h0 _).mono ?_; rintro e w' ⟨rfl, rfl⟩))
      go_ret3
      exact ⟨ret_int3 HL.out.symm (by rw [HU.out, if_neg HE.out]) HD.out.symm, rfl⟩
  · have hb : (dcode a b != 0) = true := by simpa using h
    go_enter Try.func14, Try.ntmps14
    go_wp2_with (go_at_call 35; refine (diverr_any _ _ _).mono ?_; rintro e w' ⟨rfl, rfl⟩)
    go_ret3
    exact ⟨ret_int3 (by unfold qlo; rw [if_neg h]) (by unfold qhi; rw [if_neg h]) rfl, rfl⟩

theorem sqb_any (a b : Int) (w : World) :
    Calls Try.prog 15 #[.int .i64 a, .int .i64 b] w fun e w' => e = .returned (.tuple #[.int .i64 (qlo a b), .int .i64 (qhi a b), .int .i64 (dcode a b)]) ∧ w = w' := by
  by_cases h : dcode a b = 0
  · obtain ⟨va, vb, h0⟩ := dcode_0 h
    obtain ⟨a1, a2⟩ := valB_t va
    obtain ⟨b1, b2⟩ := valB_t vb
    have HL : Hid (qlo a b = a.fdiv b) := Lib.hid (by unfold qlo; rw [if_pos h])
    have HU : Hid (qhi a b = cdiv a b) := Lib.hid (by unfold qhi; rw [if_pos h])
    have HD := Lib.hid h
    clear h va vb
    go_enter Try.func15, Try.ntmps15
    go_wp2_with (first | (go_at_call 37; refine (ldiv_any _ _ _).mono ?_; rw [HD.out]; rintro e w' ⟨rfl, rfl⟩) | (go_at_call 38; refine (lfl_any _ _ (by omega) (by omega) (by omega) (by omega) h0 _).mono ?_; rintro e w' ⟨rfl, rfl⟩) | (go_at_call 39; refine (lce_any _ _ (by omega) (by omega) (by omega) (by omega) h0 _).mono ?_; rintro e w' ⟨rfl, rfl⟩))
    go_ret3
    exact ⟨ret_int3 HL.out.symm HU.out.symm HD.out.symm, rfl⟩
  · have hb : (dcode a b != 0) = true := by simpa using h
    go_enter Try.func15, Try.ntmps15
    go_wp2_with (go_at_call 37; refine (ldiv_any _ _ _).mono ?_; rintro e w' ⟨rfl, rfl⟩)
    go_ret3
    exact ⟨ret_int3 (by unfold qlo; rw [if_neg h]) (by unfold qhi; rw [if_neg h]) rfl, rfl⟩
end Go.Proofs.Ytadgkhpdckocmaa
