/- Contracts of the greatest common divisor, the program's and the model's. -/
import Derived.Test.YtcaekheghjnipaaQuot
import Derived.Test.YtcaekheghjnipaaNumMath
import Derived.Deep.QuietTactic
import Derived.BigQuiet
import Derived.Test.YtcaekheghjnipaaRatMath
import Derived.Below
import Derived.LoopTactic
import Derived.WalkMore
import Derived.Deep.LoopGhost
import Derived.WalkSmall
namespace Go.Proofs.Ytcaekheghjnipaa
open Go.ChangeShapes Go.WideShapes Go.ChangeAt Go.RowKit Num
set_option linter.unusedVariables false

theorem igd_any (a b : Int) (a1 : -9000000000000000000 ≤ a) (a2 : a ≤ 9000000000000000000) (b1 : -9000000000000000000 ≤ b) (b2 : b ≤ 9000000000000000000) (w : World) :
    Calls Try.prog 92 #[.int .i64 a, .int .i64 b] w fun e w' => e = .returned (.int .i64 (gc a b)) ∧ ∃ n, w' = w.drewN n := by
  go_enter Try.func92, Try.ntmps92
  go_wp2
  go_loopw [0, 1] (fun l h wr => ∃ x y : Int, (∃ n, wr = w.drewN n) ∧ l = .int .i64 x ∧ h = .int .i64 y ∧ -9000000000000000000 ≤ x ∧ x ≤ 9000000000000000000 ∧ -9000000000000000000 ≤ y ∧ y ≤ 9000000000000000000 ∧ gc x y = gc a b) (fun l h _ => (intOf h).natAbs)
  case atStart => exact ⟨a, b, ⟨0, rfl⟩, rfl, rfl, a1, a2, b1, b2, rfl⟩
  case round =>
    obtain ⟨x, y, ⟨n, rfl⟩, rfl, rfl, x1, x2, y1, y2, hg⟩ := hrel
    have HG := Lib.hid hg
    clear hg
    by_cases hy : y = 0
    · subst hy
      by_cases hx : x < 0
      all_goals
        go_wp2
        go_ret
        exact ⟨ret_int (by rw [← HG.out, gc_zero]; omega), n, rfl⟩
    · have hy0 : (y == 0) = false := by simpa using hy
      have hm := tmod_abs x y hy
      have m1 : -9000000000000000000 ≤ x.tmod y := by omega
      have m2 : x.tmod y ≤ 9000000000000000000 := by omega
      go_wp2
      go_quiet (fail)
      go_wp2
      go_roundw
      case rel => exact ⟨y, x.tmod y, ⟨n + nq, World.drewN_drewN _ _ _⟩, rfl, rfl, y1, y2, m1, m2, by rw [gc_step]; exact HG.out⟩
      case measure => exact hm

theorem ldv_any (a b : Int) (a1 : -9000000000000000000 ≤ a) (a2 : a ≤ 9000000000000000000) (b1 : -9000000000000000000 ≤ b) (b2 : b ≤ 9000000000000000000) (w : World) :
    Calls Try.prog 56 #[.int .i64 a, .int .i64 b] w fun e w' => e = .returned (.int .i64 (gc a b)) ∧ ∃ n, w' = w.drewN n := by
  go_enter Try.func56, Try.ntmps56
  go_wp2_with (go_at_call 90; refine (lab_any _ (by omega) (by omega) _).mono ?_; rintro e w' ⟨rfl, rfl⟩)
  go_loopw [0, 1] (fun l h wr => ∃ x y : Int, (∃ n, wr = w.drewN n) ∧ l = .int .i64 x ∧ h = .int .i64 y ∧ 0 ≤ x ∧ x ≤ 9000000000000000000 ∧ 0 ≤ y ∧ y ≤ 9000000000000000000 ∧ gc x y = gc a b) (fun l h _ => (intOf h).natAbs)
  case atStart => exact ⟨(a.natAbs : Int), (b.natAbs : Int), ⟨0, rfl⟩, rfl, rfl, by omega, by omega, by omega, by omega, gc_abs a b⟩
  case round =>
    obtain ⟨x, y, ⟨n, rfl⟩, rfl, rfl, x1, x2, y1, y2, hg⟩ := hrel
    have HG := Lib.hid hg
    clear hg
    by_cases hy : y = 0
    · subst hy
      go_wp2
      go_ret
      exact ⟨ret_int (by rw [← HG.out, gc_zero]; omega), n, rfl⟩
    · have hm := tmod_abs x y hy
      have ht := Int.tmod_nonneg y x1
      have he : x.tmod y = x % y := Int.tmod_eq_emod_of_nonneg x1
      have HE := Lib.hid he
      rw [he] at hm ht
      clear he
      have m2 : x % y ≤ 9000000000000000000 := by omega
      go_wp2
      go_quiet (fail)
      go_wp2
      go_roundw
      case rel => exact ⟨y, x % y, ⟨n + nq, World.drewN_drewN _ _ _⟩, rfl, rfl, y1, y2, ht, m2, by rw [← HE.out, gc_step]; exact HG.out⟩
      case measure => simp [intOf]; omega
end Go.Proofs.Ytcaekheghjnipaa
