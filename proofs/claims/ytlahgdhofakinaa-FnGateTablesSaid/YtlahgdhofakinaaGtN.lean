/- Contracts of cmp.Compare at two numbers, of slices.MinFunc at the program's costs, and of the program's NearestIn. -/
import Derived.Test.YtlahgdhofakinaaGtH
namespace Go.Proofs.Ytlahgdhofakinaa
open Go.ChangeShapes Go.WideShapes Go.ChangeAt Go.RowKit Go.Shelf Num
set_option linter.unusedVariables false
set_option linter.unusedSimpArgs false

theorem nanG_any (w : World) (x : Int) :
    Calls Try.prog 124 #[.int .i64 x] w fun e w' => e = .returned (.bool false) ∧ w = w' := by
  go_enter Try.func124, Try.ntmps124
  go_wp2
  go_ret
  exact ⟨ret_bool (by simp), rfl⟩
theorem cmpG_any (w : World) (x y : Int) :
    Calls Try.prog 114 #[.int .i64 x, .int .i64 y] w fun e w' => e = .returned (.int .i64 (sgn x y)) ∧ w = w' := by
  by_cases h1 : x < y
  · go_enter Try.func114, Try.ntmps114
    go_wp2_with (go_at_call 124; refine (nanG_any _ _).mono ?_; rintro e w' ⟨rfl, rfl⟩)
    go_ret
    exact ⟨ret_int (by unfold sgn; rw [if_pos h1]), rfl⟩
  · by_cases h2 : y < x
    · go_enter Try.func114, Try.ntmps114
      go_wp2_with (go_at_call 124; refine (nanG_any _ _).mono ?_; rintro e w' ⟨rfl, rfl⟩)
      go_ret
      exact ⟨ret_int (by unfold sgn; rw [if_neg (by omega), if_pos h2]), rfl⟩
    · go_enter Try.func114, Try.ntmps114
      go_wp2_with (go_at_call 124; refine (nanG_any _ _).mono ?_; rintro e w' ⟨rfl, rfl⟩)
      go_ret
      exact ⟨ret_int (by unfold sgn; rw [if_neg (by omega), if_neg (by omega)]), rfl⟩
/-- the first of the least of the first k elements -/
theorem mn_one {f : Nat → Int} {zs : List Int} (h : 0 < zs.length) : mnL f (zs.take 1) = zs.getD 0 0 := by
  cases zs with
  | nil => simp at h
  | cons z t => simp [mnL, mnS]
theorem mn_step {f : Nat → Int} {zs : List Int} {k : Nat} (h : k < zs.length) : mnL f (zs.take (k + 1)) = mnS f (mnL f (zs.take k)) (zs.getD k 0) := by
  rw [List.take_succ_eq_append_getElem h, mnL_snoc, List.getD_eq_getElem?_getD, List.getElem?_eq_getElem h]
  rfl

end Go.Proofs.Ytlahgdhofakinaa
