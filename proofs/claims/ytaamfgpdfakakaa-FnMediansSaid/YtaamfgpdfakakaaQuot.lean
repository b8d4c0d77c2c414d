/- Contracts of QuotientBounds and NearestQuotient, the program's and the model's: both hand back the same numbers at every pair of integers. -/
import Derived.Test.YtaamfgpdfakakaaNum
namespace Go.Proofs.Ytaamfgpdfakakaa
open Go.ChangeShapes Go.WideShapes Go.ChangeAt Go.RowKit Num
set_option linter.unusedVariables false
theorem ret_int3 {a b c a' b' c' : Int} (h : a = a') (h2 : b = b') (h3 : c = c') : Ending.returned (.tuple #[.int .i64 a, .int .i64 b, .int .i64 c]) = .returned (.tuple #[.int .i64 a', .int .i64 b', .int .i64 c']) := by rw [h, h2, h3]
theorem ret_int2 {a b a' b' : Int} (h : a = a') (h2 : b = b') : Ending.returned (.tuple #[.int .i64 a, .int .i64 b]) = .returned (.tuple #[.int .i64 a', .int .i64 b']) := by rw [h, h2]
def qlo (a b : Int) : Int := if dcode a b = 0 then a.fdiv b else 0
def qhi (a b : Int) : Int := if dcode a b = 0 then cdiv a b else 0

theorem iqb_any (a b : Int) (w : World) :
    Calls Try.prog 20 #[.int .i64 a, .int .i64 b] w fun e w' => e = .returned (.tuple #[.int .i64 (qlo a b), .int .i64 (qhi a b), .int .i64 (dcode a b)]) ∧ w = w' := by
  by_cases h : dcode a b = 0
  · obtain ⟨va, vb, h0⟩ := dcode_0 h
    obtain ⟨a1, a2⟩ := valB_t va
    obtain ⟨b1, b2⟩ := valB_t vb
    have HL : Hid (qlo a b = a.fdiv b) := Lib.hid (by unfold qlo; rw [if_pos h])
    have HU : Hid (qhi a b = cdiv a b) := Lib.hid (by unfold qhi; rw [if_pos h])
    have HD := Lib.hid h
    clear h va vb
    go_enter Try.func20, Try.ntmps20
    go_wp2_with (first | (go_at_call 64; refine (diverr_any _ _ _).mono ?_; rw [HD.out]; rintro e w' ⟨rfl, rfl⟩) | (go_at_call 65; refine (fq_any _ _ (by omega) (by omega) (by omega) (by omega) h0 _).mono ?_; rintro e w' ⟨rfl, rfl⟩) | (go_at_call 66; refine (cq_any _ _ (by omega) (by omega) (by omega) (by omega) h0 _).mono ?_; rintro e w' ⟨rfl, rfl⟩))
    go_ret3
    exact ⟨ret_int3 HL.out.symm HU.out.symm HD.out.symm, rfl⟩
  · have hb : (dcode a b != 0) = true := by simpa using h
    go_enter Try.func20, Try.ntmps20
    go_wp2_with (go_at_call 64; refine (diverr_any _ _ _).mono ?_; rintro e w' ⟨rfl, rfl⟩)
    go_ret3
    exact ⟨ret_int3 (by unfold qlo; rw [if_neg h]) (by unfold qhi; rw [if_neg h]) rfl, rfl⟩
theorem sqb_any (a b : Int) (w : World) :
    Calls Try.prog 21 #[.int .i64 a, .int .i64 b] w fun e w' => e = .returned (.tuple #[.int .i64 (qlo a b), .int .i64 (qhi a b), .int .i64 (dcode a b)]) ∧ w = w' := by
  by_cases h : dcode a b = 0
  · obtain ⟨va, vb, h0⟩ := dcode_0 h
    obtain ⟨a1, a2⟩ := valB_t va
    obtain ⟨b1, b2⟩ := valB_t vb
    have HL : Hid (qlo a b = a.fdiv b) := Lib.hid (by unfold qlo; rw [if_pos h])
    have HU : Hid (qhi a b = cdiv a b) := Lib.hid (by unfold qhi; rw [if_pos h])
    have HD := Lib.hid h
    clear h va vb
    go_enter Try.func21, Try.ntmps21
    go_wp2_with (first | (go_at_call 67; refine (ldiv_any _ _ _).mono ?_; rw [HD.out]; rintro e w' ⟨rfl, rfl⟩) | (go_at_call 68; refine (lfl_any _ _ (by omega) (by omega) (by omega) (by omega) h0 _).mono ?_; rintro e w' ⟨rfl, rfl⟩) | (go_at_call 69; refine (lce_any _ _ (by omega) (by omega) (by omega) (by omega) h0 _).mono ?_; rintro e w' ⟨rfl, rfl⟩))
    go_ret3
    exact ⟨ret_int3 HL.out.symm HU.out.symm HD.out.symm, rfl⟩
  · have hb : (dcode a b != 0) = true := by simpa using h
    go_enter Try.func21, Try.ntmps21
    go_wp2_with (go_at_call 67; refine (ldiv_any _ _ _).mono ?_; rintro e w' ⟨rfl, rfl⟩)
    go_ret3
    exact ⟨ret_int3 (by unfold qlo; rw [if_neg h]) (by unfold qhi; rw [if_neg h]) rfl, rfl⟩
end Go.Proofs.Ytaamfgpdfakakaa
