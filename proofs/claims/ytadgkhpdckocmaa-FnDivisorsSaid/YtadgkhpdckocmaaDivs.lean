/- Contracts of CommonDivisor, the program's and the model's, and the walk of its exact law. -/
import Derived.Test.YtadgkhpdckocmaaNear
import Derived.Below
import Derived.LoopTactic
import Derived.WalkMore
import Derived.Deep.LoopGhost
import Derived.WalkSmall
namespace Go.Proofs.Ytadgkhpdckocmaa
open Go.ChangeShapes Go.WideShapes Go.ChangeAt Go.RowKit Num
set_option linter.unusedVariables false
/-- the greatest common divisor -/
def gc (a b : Int) : Int := (Int.gcd a b : Int)
theorem gc_step (a b : Int) : gc b (a.tmod b) = gc a b := by
  unfold gc Int.gcd
  rw [Int.natAbs_tmod, Nat.gcd_comm b.natAbs, ← Nat.gcd_rec, Nat.gcd_comm]
theorem gc_zero (a : Int) : gc a 0 = (a.natAbs : Int) := by unfold gc Int.gcd; simp
theorem gc_abs (a b : Int) : gc (a.natAbs : Int) (b.natAbs : Int) = gc a b := by unfold gc Int.gcd; simp

def gcode (a b : Int) : Int := if valB a && valB b then 0 else 2
def gval (a b : Int) : Int := if valB a && valB b then gc a b else 0

theorem icd_any (a b : Int) (w : World) :
    Calls Try.prog 19 #[.int .i64 a, .int .i64 b] w fun e w' => e = .returned (.tuple #[.int .i64 (gval a b), .int .i64 (gcode a b)]) ∧ ∃ n, w' = w.drewN n := by
  have HV : Hid (gval a b = if valB a && valB b then gc a b else 0) := Lib.hid rfl
  have HC : Hid (gcode a b = if valB a && valB b then 0 else 2) := Lib.hid rfl
  cases ha : valB a <;> cases hb : valB b
  case true.true =>
    obtain ⟨a1, a2⟩ := valB_t ha
    obtain ⟨b1, b2⟩ := valB_t hb
    rw [ha, hb] at HV HC
    go_enter Try.func19, Try.ntmps19
    go_wp2_with (go_at_call 42; refine (isv_any _ _).mono ?_; rintro e w' ⟨rfl, rfl⟩)
    clear ha hb
    go_loopw [0, 1] (fun l h wr => ∃ x y : Int, (∃ n, wr = w.drewN n) ∧ l = .int .i64 x ∧ h = .int .i64 y ∧ -1000000000000 ≤ x ∧ x ≤ 1000000000000 ∧ -1000000000000 ≤ y ∧ y ≤ 1000000000000 ∧ gc x y = gc a b) (fun l h _ => (intOf h).natAbs)
    case atStart => exact ⟨a, b, ⟨0, rfl⟩, rfl, rfl, a1, a2, b1, b2, rfl⟩
    case round =>
      obtain ⟨x, y, ⟨n, rfl⟩, rfl, rfl, x1, x2, y1, y2, hg⟩ := hrel
      have HG := Lib.hid hg
      clear hg
      by_cases hy : y = 0
      · subst hy
        go_wp2_with (go_at_call 40; refine (abs_any _ (by omega) (by omega) _).mono ?_; rintro e w' ⟨rfl, rfl⟩)
        go_ret2
        exact ⟨ret_int2 (by rw [HV.out, ← HG.out, gc_zero]; rfl) (by rw [HC.out]; rfl), n, rfl⟩
      · have hy0 : (y == 0) = false := by simpa using hy
        have hm := tmod_abs x y hy
        have m1 : -1000000000000 ≤ x.tmod y := by omega
        have m2 : x.tmod y ≤ 1000000000000 := by omega
        go_wp2
        go_quiet (fail)
        go_wp2
        go_roundw
        case rel => exact ⟨y, x.tmod y, ⟨n + nq, World.drewN_drewN _ _ _⟩, rfl, rfl, y1, y2, m1, m2, by rw [gc_step]; exact HG.out⟩
        case measure => exact hm
  all_goals
    go_enter Try.func19, Try.ntmps19
    go_wp2_with (go_at_call 42; refine (isv_any _ _).mono ?_; rintro e w' ⟨rfl, rfl⟩)
    go_ret2
    exact ⟨ret_int2 (by rw [HV.out]; simp [*]) (by rw [HC.out]; simp [*]), 0, rfl⟩

theorem ldv_any (a b : Int) (a1 : -1000000000000 ≤ a) (a2 : a ≤ 1000000000000) (b1 : -1000000000000 ≤ b) (b2 : b ≤ 1000000000000) (w : World) :
    Calls Try.prog 44 #[.int .i64 a, .int .i64 b] w fun e w' => e = .returned (.int .i64 (gc a b)) ∧ ∃ n, w' = w.drewN n := by
  go_enter Try.func44, Try.ntmps44
  go_wp2_with (go_at_call 56; refine (lab_any _ (by omega) (by omega) _).mono ?_; rintro e w' ⟨rfl, rfl⟩)
  go_loopw [0, 1] (fun l h wr => ∃ x y : Int, (∃ n, wr = w.drewN n) ∧ l = .int .i64 x ∧ h = .int .i64 y ∧ 0 ≤ x ∧ x ≤ 1000000000000 ∧ 0 ≤ y ∧ y ≤ 1000000000000 ∧ gc x y = gc a b) (fun l h _ => (intOf h).natAbs)
  case atStart => exact ⟨(a.natAbs : Int), (b.natAbs : Int), ⟨0, rfl⟩, rfl, rfl, by omega, by omega, by omega, by omega, gc_abs a b⟩
  case round =>
    obtain ⟨x, y, ⟨n, rfl⟩, rfl, rfl, x1, x2, y1, y2, hg⟩ := hrel
    have HG := Lib.hid hg
    clear hg
    by_cases hy : y = 0
    · subst hy
      go_wp2
      go_ret
      exact ⟨ret_int (by rw [← HG.out, gc_zero]; omega), n, rfl⟩
    · have hm := tmod_abs x y hy
      have ht := Int.tmod_nonneg y x1
      have he : x.tmod y = x % y := Int.tmod_eq_emod_of_nonneg x1
      have HE := Lib.hid he
      rw [he] at hm ht
      clear he
      have m2 : x % y ≤ 1000000000000 := by omega
      go_wp2
      go_quiet (fail)
      go_wp2
      go_roundw
      case rel => exact ⟨y, x % y, ⟨n + nq, World.drewN_drewN _ _ _⟩, rfl, rfl, y1, y2, ht, m2, by rw [← HE.out, gc_step]; exact HG.out⟩
      case measure => simp [intOf]; omega

theorem scd_any (a b : Int) (w : World) :
    Calls Try.prog 20 #[.int .i64 a, .int .i64 b] w fun e w' => e = .returned (.tuple #[.int .i64 (gval a b), .int .i64 (gcode a b)]) ∧ ∃ n, w' = w.drewN n := by
  have HV : Hid (gval a b = if valB a && valB b then gc a b else 0) := Lib.hid rfl
  have HC : Hid (gcode a b = if valB a && valB b then 0 else 2) := Lib.hid rfl
  cases ha : valB a <;> cases hb : valB b
  case true.true =>
    obtain ⟨a1, a2⟩ := valB_t ha
    obtain ⟨b1, b2⟩ := valB_t hb
    go_enter Try.func20, Try.ntmps20
    go_wp2_with (first | (go_at_call 43; refine (isl_any _ _).mono ?_; rintro e w' ⟨rfl, rfl⟩) | (go_at_call 44; refine (ldv_any _ _ a1 a2 b1 b2 _).mono ?_; rintro e w' ⟨rfl, nd, rfl⟩))
    go_ret2
    exact ⟨ret_int2 (by rw [HV.out]; simp [*]) (by rw [HC.out]; simp [*]), nd, rfl⟩
  all_goals
    go_enter Try.func20, Try.ntmps20
    go_wp2_with (go_at_call 43; refine (isl_any _ _).mono ?_; rintro e w' ⟨rfl, rfl⟩)
    go_ret2
    exact ⟨ret_int2 (by rw [HV.out]; simp [*]) (by rw [HC.out]; simp [*]), 0, rfl⟩

theorem lcd (a0 : Int) (a1 : Int) (w0 : (Lit.int .i64 a0).wf = true) (w1 : (Lit.int .i64 a1).wf = true) (w : World) :
    Calls Try.prog 9 #[.int .i64 a0, .int .i64 a1] w fun e w' => e = .returned (.bool true) ∧ Below w.heap.size w w' := by
  clear w0 w1
  go_enter Try.func9, Try.ntmps9
  go_wp2_with (first | (go_at_call 19; refine (icd_any _ _ _).mono ?_; rintro e w' ⟨rfl, n1, rfl⟩) | (go_at_call 20; refine (scd_any _ _ _).mono ?_; rintro e w' ⟨rfl, n2, rfl⟩))
  go_ret
  exact ⟨rfl, below_drewN (Below.refl _ _) _⟩
end Go.Proofs.Ytadgkhpdckocmaa
