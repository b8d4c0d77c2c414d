/- Contracts of RootBounds, the program's and the model's, and the walk of its exact law. -/
import Derived.Test.YtgecbfbmmbfnmaaBas
import Derived.Test.YtgecbfbmmbfnmaaMth
import Derived.Below
import Derived.LoopTactic
import Derived.WalkMore
import Derived.Deep.LoopGhost
namespace Go.Proofs.Ytgecbfbmmbfnmaa
open Go.ChangeShapes Go.WideShapes Go.ChangeAt Go.RowKit Num
set_option linter.unusedVariables false
theorem ird_any (n : Int) (n1 : 0 ≤ n) (n2 : n ≤ 4000000000000000000) (w : World) :
    Calls Try.prog 114 #[.int .i64 n] w fun e w' => e = .returned (.int .i64 (rt n)) ∧ w = w' := by
  go_enter Try.func114, Try.ntmps114
  go_wp2
  go_step3
  go_wp2
  go_step3
  go_wp2
  go_loop [3, 4] (fun l h => ∃ lo hi : Int, l = .int .i64 lo ∧ h = .int .i64 hi ∧ 0 ≤ lo ∧ lo ≤ hi ∧ hi ≤ 2000000000 ∧ lo * lo ≤ n ∧ n < (hi + 1) * (hi + 1)) (fun l h => (intOf h - intOf l).toNat)
  case atStart => exact ⟨0, 2000000000, rfl, rfl, by omega, by omega, by omega, by omega, by omega⟩
  case round =>
    obtain ⟨lo, hi, rfl, rfl, h1, h2, h3, h4, h5⟩ := hrel
    have H4 := Lib.hid h4
    have H5 := Lib.hid h5
    clear h4 h5
    by_cases hc : lo < hi
    · have e0 : 0 ≤ (lo + hi + 1) / 2 := by omega
      have e1 : (lo + hi + 1) / 2 ≤ 2000000000 := by omega
      have s0 := rsq_le (a := 0) (b := (lo + hi + 1) / 2) (by omega) (by omega)
      have s1 := rsq_le e0 e1
      rcases Int.lt_trichotomy ((lo + hi + 1) / 2 * ((lo + hi + 1) / 2)) n with hs | hs | hs
      · have hb : ((lo + hi + 1) / 2 * ((lo + hi + 1) / 2) == n) = false := by simp; omega
        go_wp2
        go_round
        case rel => exact ⟨(lo + hi + 1) / 2, hi, rfl, rfl, by omega, by omega, by omega, by omega, H5.out⟩
        case measure => simp [intOf]; omega
      · have hb : ((lo + hi + 1) / 2 * ((lo + hi + 1) / 2) == n) = true := by simp; omega
        have HS := Lib.hid hs
        clear hs
        go_wp2
        go_ret
        exact ⟨ret_int (rt_unique e0 (by have := HS.out; omega) (by have := HS.out; have := rsq_lt e0 (show (lo + hi + 1) / 2 < (lo + hi + 1) / 2 + 1 by omega); omega)).symm, rfl⟩
      · have hb : ((lo + hi + 1) / 2 * ((lo + hi + 1) / 2) == n) = false := by simp; omega
        go_wp2
        go_round
        case rel => exact ⟨lo, (lo + hi + 1) / 2 - 1, rfl, rfl, by omega, by omega, by omega, H4.out, by rw [show (lo + hi + 1) / 2 - 1 + 1 = (lo + hi + 1) / 2 by omega]; omega⟩
        case measure => simp [intOf]; omega
    · go_wp2
      go_ret
      obtain rfl : lo = hi := by omega
      exact ⟨ret_int (rt_unique h1 H4.out H5.out).symm, rfl⟩

theorem lrt_any (n : Int) (n1 : 0 ≤ n) (n2 : n ≤ 4000000000000000000) (w : World) :
    Calls Try.prog 78 #[.int .i64 n] w fun e w' => e = .returned (.int .i64 (rt n)) ∧ w = w' := by
  go_enter Try.func78, Try.ntmps78
  go_wp2
  go_loop [3, 4] (fun l h => ∃ lo hi : Int, l = .int .i64 lo ∧ h = .int .i64 hi ∧ 0 ≤ lo ∧ lo < hi ∧ hi ≤ 2000000001 ∧ lo * lo ≤ n ∧ n < hi * hi) (fun l h => (intOf h - intOf l).toNat)
  case atStart => exact ⟨0, 2000000001, rfl, rfl, by omega, by omega, by omega, by omega, by omega⟩
  case round =>
    obtain ⟨lo, hi, rfl, rfl, h1, h2, h3, h4, h5⟩ := hrel
    have H4 := Lib.hid h4
    have H5 := Lib.hid h5
    clear h4 h5
    by_cases hc : 1 < hi - lo
    · have e0 : 0 ≤ (lo + hi) / 2 := by omega
      have e1 : (lo + hi) / 2 ≤ 2000000000 := by omega
      have s0 := rsq_le (a := 0) (b := (lo + hi) / 2) (by omega) (by omega)
      have s1 := rsq_le e0 e1
      by_cases hs : (lo + hi) / 2 * ((lo + hi) / 2) ≤ n
      · go_wp2
        go_round
        case rel => exact ⟨(lo + hi) / 2, hi, rfl, rfl, by omega, by omega, by omega, by omega, H5.out⟩
        case measure => simp [intOf]; omega
      · go_wp2
        go_round
        case rel => exact ⟨lo, (lo + hi) / 2, rfl, rfl, by omega, by omega, by omega, H4.out, by omega⟩
        case measure => simp [intOf]; omega
    · go_wp2
      go_ret
      obtain rfl : hi = lo + 1 := by omega
      exact ⟨ret_int (rt_unique h1 H4.out H5.out).symm, rfl⟩

/-- the root rounded up -/
def rtup (n : Int) : Int := if rt n * rt n = n then rt n else rt n + 1
theorem lru_any (n : Int) (n1 : 0 ≤ n) (n2 : n ≤ 4000000000000000000) (w : World) :
    Calls Try.prog 79 #[.int .i64 n] w fun e w' => e = .returned (.int .i64 (rtup n)) ∧ w = w' := by
  obtain ⟨g1, g2⟩ := rt_sq n n1
  have g3 := rt_nonneg n
  have g4 := rt_le n1 n2
  have g5 := rsq_le (a := 0) (b := rt n) (by omega) g3
  have HG := Lib.hid g2
  clear g2
  have HU : Hid (rtup n = if rt n * rt n = n then rt n else rt n + 1) := Lib.hid rfl
  by_cases h : rt n * rt n < n
  · go_enter Try.func79, Try.ntmps79
    go_wp2_with (go_at_call 78; refine (lrt_any _ (by omega) (by omega) _).mono ?_; rintro e w' ⟨rfl, rfl⟩)
    go_ret
    exact ⟨ret_int (by rw [HU.out, if_neg (by omega)]), rfl⟩
  · go_enter Try.func79, Try.ntmps79
    go_wp2_with (go_at_call 78; refine (lrt_any _ (by omega) (by omega) _).mono ?_; rintro e w' ⟨rfl, rfl⟩)
    go_ret
    exact ⟨ret_int (by rw [HU.out, if_pos (by omega)]), rfl⟩

def rcode (n : Int) : Int := if 0 ≤ n ∧ n ≤ 4000000000000000000 then 0 else 2
def rlo (n : Int) : Int := if 0 ≤ n ∧ n ≤ 4000000000000000000 then rt n else 0
def rhi (n : Int) : Int := if 0 ≤ n ∧ n ≤ 4000000000000000000 then rtup n else 0
def RootEnd (n : Int) (w : World) (e : Ending) (w' : World) : Prop := e = .returned (.tuple #[.int .i64 (rlo n), .int .i64 (rhi n), .int .i64 (rcode n)]) ∧ w = w'
theorem rootEnd_no {n : Int} {w : World} (h : ¬ (0 ≤ n ∧ n ≤ 4000000000000000000)) : RootEnd n w (.returned (.tuple #[.int .i64 0, .int .i64 0, .int .i64 2])) w :=
  ⟨ret_int3 (by unfold rlo; rw [if_neg h]) (by unfold rhi; rw [if_neg h]) (by unfold rcode; rw [if_neg h]), rfl⟩
theorem rootEnd_yes {n a b : Int} {w : World} (h : 0 ≤ n) (g : n ≤ 4000000000000000000) (ha : a = rt n) (hb : b = rtup n) : RootEnd n w (.returned (.tuple #[.int .i64 a, .int .i64 b, .int .i64 0])) w :=
  ⟨ret_int3 (by unfold rlo; rw [if_pos ⟨h, g⟩, ha]) (by unfold rhi; rw [if_pos ⟨h, g⟩, hb]) (by unfold rcode; rw [if_pos ⟨h, g⟩]), rfl⟩
theorem irb_any (n : Int) (w : World) :
    Calls Try.prog 108 #[.int .i64 n] w (RootEnd n w) := by
  by_cases h1 : n < 0
  · go_enter Try.func108, Try.ntmps108
    go_wp2
    go_ret3
    exact rootEnd_no (by omega)
  · by_cases h2 : 4000000000000000000 < n
    · go_enter Try.func108, Try.ntmps108
      go_wp2
      go_ret3
      exact rootEnd_no (by omega)
    · obtain ⟨g1, g2⟩ := rt_sq n (by omega)
      have g3 := rt_nonneg n
      have g4 := rt_le (n := n) (by omega) (by omega)
      have g5 := rsq_le (a := 0) (b := rt n) (by omega) g3
      have HG := Lib.hid g2
      clear g2
      by_cases h : rt n * rt n = n
      · have hb : (rt n * rt n == n) = true := by simpa using h
        have HH := Lib.hid h
        clear h
        go_enter Try.func108, Try.ntmps108
        go_wp2_with (go_at_call 114; refine (ird_any _ (by omega) (by omega) _).mono ?_; rintro e w' ⟨rfl, rfl⟩)
        go_ret3
        exact rootEnd_yes (by omega) (by omega) rfl (by unfold rtup; rw [if_pos HH.out])
      · have hb : (rt n * rt n == n) = false := by simpa using h
        have HH := Lib.hid h
        clear h
        go_enter Try.func108, Try.ntmps108
        go_wp2_with (go_at_call 114; refine (ird_any _ (by omega) (by omega) _).mono ?_; rintro e w' ⟨rfl, rfl⟩)
        go_ret3
        exact rootEnd_yes (by omega) (by omega) rfl (by unfold rtup; rw [if_neg HH.out])

end Go.Proofs.Ytgecbfbmmbfnmaa
