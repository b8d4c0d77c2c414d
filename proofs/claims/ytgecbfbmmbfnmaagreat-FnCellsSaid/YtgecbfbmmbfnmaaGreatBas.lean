import Derived.Test.YtgecbfbmmbfnmaaGreatRows
import Derived.WalkKit
import Derived.ProofKit
import Derived.OpenShut
import Derived.Below
import Derived.Deep.Draws
import Derived.Lib.Hide
import Derived.Test.YtgecbfbmmbfnmaaGreatMth
import Derived.Outline
import Derived.Deep.QuietTactic
import Derived.BigQuiet
import Derived.LoopTactic
import Derived.WalkMore
import Derived.Deep.LoopGhost
import Derived.WalkSmall
import Derived.WalkSpells
import Derived.WalkLawsBesides
import Derived.Deep.RegionHeld3
import Derived.Deep.DeepCutAuto
import Derived.Deep.DrawnRows
import Derived.Deep.OwnRows
import Derived.StillTailTactics
import Derived.Laws.Rows
namespace Go.Proofs.YtgecbfbmmbfnmaaGreat
section
/- Contracts of values, ranges and absolute values, the program's and the model's. Contracts of the program's and of the model's integer helpers: values, codes of a division, quotients rounded down and up. Contracts of QuotientBounds and NearestQuotient, the program's and the model's: both hand back the same numbers at every pair of integers. Contracts of the greatest common divisor, the program's and the model's. Contracts of the small functions on intervals, the program's and the model's: valid intervals, numbers in them, results within the values; the laws' own copies of an interval and their comparison. Contracts of the common part of two intervals, of results within the values, and of a number in an interval, the program's and the model's. Contracts of ScaledInterval, the program's and the model's. The walks of the exact laws of functions of two intervals: each returns true and writes nothing that was there. Slices of 64-bit integers as lists: what a slice that came in, or that the call has made, reads as; nil and empty ones let in. Contracts of the laws' own helpers on slices of integers: a copy of a slice lies in new memory; two slices are compared element by element; a code is big from 4097 letters on. -/
open Go.ChangeShapes Go.WideShapes Go.ChangeAt Go.RowKit
set_option linter.unusedVariables false
theorem bel_drewN {B : Nat} {a w : World} (h : Below B a w) (n : Nat) : Below B a (w.drewN n) := ⟨h.os, h.tape, h.output, h.size, h.block⟩
theorem bel_end {w W w' : World} (g : Below w.heap.size w W) (h : Below W.heap.size W w') : Below w.heap.size w w' := g.trans (h.mono g.size)
/-- cells and marks of old blocks, as rules -/
theorem bel_rules {B : Nat} {W w1 : World} (hb : Below B W w1) : (∀ b o, b < B → w1.cell? ⟨b, o, none⟩ = W.cell? ⟨b, o, none⟩) ∧ (∀ b o, b < B → w1.frozen? ⟨b, o, none⟩ = W.frozen? ⟨b, o, none⟩) ∧ (∀ b, b < W.heap.size → b < w1.heap.size) :=
  ⟨fun b o h => hb.cell (p := ⟨b, o, none⟩) h, fun b o h => hb.frozen (p := ⟨b, o, none⟩) h, fun b h => Nat.lt_of_lt_of_le h hb.size⟩
theorem bel_in {B : Nat} {W w1 w2 : World} (g : Below w1.heap.size w1 w2) (h : Below B W w1) (hB : B ≤ W.heap.size) : Below B W w2 := h.trans (g.mono (Nat.le_trans hB h.size))
theorem bel_al {B : Nat} {W w1 : World} {o : Obj} (h : Below B W w1) (hB : B ≤ W.heap.size) : Below B W (w1.alloc o) := h.alloc (Nat.le_trans hB h.size) o
/-- a value: an integer from -10^12 to 10^12 -/
def valB (x : Int) : Bool := decide (-1000000000000 ≤ x ∧ x ≤ 1000000000000)
theorem valB_t {x : Int} (h : valB x = true) : -1000000000000 ≤ x ∧ x ≤ 1000000000000 := by unfold valB at h; exact of_decide_eq_true h
theorem valB_mk {x : Int} (h : -1000000000000 ≤ x) (g : x ≤ 1000000000000) : valB x = true := by unfold valB; exact decide_eq_true ⟨h, g⟩
theorem valB_lo {x : Int} (h : x < -1000000000000) : valB x = false := by unfold valB; exact decide_eq_false (by omega)
theorem valB_hi {x : Int} (h : 1000000000000 < x) : valB x = false := by unfold valB; exact decide_eq_false (by omega)

theorem ret_int {k : IntKind} {a b : Int} (h : a = b) : Ending.returned (.int k a) = .returned (.int k b) := by rw [h]
theorem ret_bool {a b : Bool} (h : a = b) : Ending.returned (.bool a) = .returned (.bool b) := by rw [h]
/-- a number of a range -/
def inB (n lo hi : Int) : Bool := decide (lo ≤ n ∧ n ≤ hi)
theorem inB_t {n lo hi : Int} (h : inB n lo hi = true) : lo ≤ n ∧ n ≤ hi := by unfold inB at h; exact of_decide_eq_true h
theorem inB_mk {n lo hi : Int} (h : lo ≤ n) (g : n ≤ hi) : inB n lo hi = true := by unfold inB; exact decide_eq_true ⟨h, g⟩
theorem inB_f {n lo hi : Int} (h : inB n lo hi = false) : n < lo ∨ hi < n := by
  unfold inB at h; have := of_decide_eq_false h; omega
theorem inB_lo {n lo hi : Int} (h : n < lo) : inB n lo hi = false := by unfold inB; exact decide_eq_false (by omega)
theorem inB_hi {n lo hi : Int} (h : hi < n) : inB n lo hi = false := by unfold inB; exact decide_eq_false (by omega)
theorem lin_any (n lo hi : Int) (w : World) :
    Calls Tryz.prog 44 #[.int .i64 n, .int .i64 lo, .int .i64 hi] w fun e w' => e = .returned (.bool (inB n lo hi)) ∧ w = w' := by
  by_cases h1 : n < lo
  · go_enter Tryz.func44, Tryz.ntmps44
    go_wp2
    go_ret
    exact ⟨ret_bool (by rw [inB_lo h1]), rfl⟩
  · by_cases h2 : hi < n
    · go_enter Tryz.func44, Tryz.ntmps44
      go_wp2
      go_ret
      exact ⟨ret_bool (by rw [inB_hi h2]; exact decide_eq_false (by omega)), rfl⟩
    · go_enter Tryz.func44, Tryz.ntmps44
      go_wp2
      go_ret
      exact ⟨ret_bool (by rw [inB_mk (by omega) (by omega)]), rfl⟩

theorem isv_any (x : Int) (w : World) :
    Calls Tryz.prog 80 #[.int .i64 x] w fun e w' => e = .returned (.bool (valB x)) ∧ w = w' := by
  by_cases h1 : x < -1000000000000
  · go_enter Tryz.func80, Tryz.ntmps80
    go_wp2
    go_ret
    exact ⟨ret_bool (by rw [valB_lo h1]), rfl⟩
  · by_cases h2 : 1000000000000 < x
    · go_enter Tryz.func80, Tryz.ntmps80
      go_wp2
      go_ret
      exact ⟨ret_bool (by rw [valB_hi h2]; exact decide_eq_false (by omega)), rfl⟩
    · go_enter Tryz.func80, Tryz.ntmps80
      go_wp2
      go_ret
      exact ⟨ret_bool (by rw [valB_mk (by omega) (by omega)]), rfl⟩

theorem isl_any (x : Int) (w : World) :
    Calls Tryz.prog 69 #[.int .i64 x] w fun e w' => e = .returned (.bool (valB x)) ∧ w = w' := by
  by_cases h1 : x < -1000000000000
  · go_enter Tryz.func69, Tryz.ntmps69
    go_wp2
    go_ret
    exact ⟨ret_bool (by rw [valB_lo h1]), rfl⟩
  · by_cases h2 : 1000000000000 < x
    · go_enter Tryz.func69, Tryz.ntmps69
      go_wp2
      go_ret
      exact ⟨ret_bool (by rw [valB_hi h2]; exact decide_eq_false (by omega)), rfl⟩
    · go_enter Tryz.func69, Tryz.ntmps69
      go_wp2
      go_ret
      exact ⟨ret_bool (by rw [valB_mk (by omega) (by omega)]), rfl⟩

theorem abs_any (a : Int) (ha : -9000000000000000000 ≤ a) (ha' : a ≤ 9000000000000000000) (w : World) :
    Calls Tryz.prog 113 #[.int .i64 a] w fun e w' => e = .returned (.int .i64 (a.natAbs : Int)) ∧ w = w' := by
  by_cases h : a < 0
  · go_enter Tryz.func113, Tryz.ntmps113
    go_wp2
    go_ret
    exact ⟨ret_int (by omega), rfl⟩
  · go_enter Tryz.func113, Tryz.ntmps113
    go_wp2
    go_ret
    exact ⟨ret_int (by omega), rfl⟩

theorem lab_any (a : Int) (ha : -9000000000000000000 ≤ a) (ha' : a ≤ 9000000000000000000) (w : World) :
    Calls Tryz.prog 74 #[.int .i64 a] w fun e w' => e = .returned (.int .i64 (a.natAbs : Int)) ∧ w = w' := by
  by_cases h : a < 0
  · go_enter Tryz.func74, Tryz.ntmps74
    go_wp2
    go_ret
    exact ⟨ret_int (by omega), rfl⟩
  · go_enter Tryz.func74, Tryz.ntmps74
    go_wp2
    go_ret
    exact ⟨ret_int (by omega), rfl⟩
open Go.ChangeShapes Go.WideShapes Go.ChangeAt Go.RowKit Num
set_option linter.unusedVariables false

theorem fq_any (a b : Int) (ha : -9000000000000000000 ≤ a) (ha' : a ≤ 9000000000000000000) (hb : -9000000000000000000 ≤ b) (hb' : b ≤ 9000000000000000000) (h0 : ¬ b = 0) (w : World) :
    Calls Tryz.prog 119 #[.int .i64 a, .int .i64 b] w fun e w' => e = .returned (.int .i64 (a.fdiv b)) ∧ w = w' := by
  have hd := tdiv_bd a b
  have hm := tmod_abs a b h0
  have l1 : -9000000000000000000 ≤ a.tdiv b := by omega
  have l2 : a.tdiv b ≤ 9000000000000000000 := by omega
  have l3 : -9000000000000000000 ≤ a.tmod b := by omega
  have l4 : a.tmod b ≤ 9000000000000000000 := by omega
  clear hd hm
  by_cases hr : a.tmod b = 0
  · have E := fdiv_same a b hr
    have HE := Lib.hid E; clear E
    go_enter Tryz.func119, Tryz.ntmps119
    go_wp2
    go_ret
    exact ⟨ret_int HE.out.symm, rfl⟩
  · by_cases h1 : a.tmod b < 0 <;> by_cases h2 : b < 0
    · have E := fdiv_alike a b hr (by simp [h1, h2])
      have HE := Lib.hid E; clear E
      go_enter Tryz.func119, Tryz.ntmps119
      go_wp2
      go_ret
      exact ⟨ret_int HE.out.symm, rfl⟩
    · have E := fdiv_unlike a b h0 hr (by simp [h1, h2])
      have HE := Lib.hid E; clear E
      go_enter Tryz.func119, Tryz.ntmps119
      go_wp2
      go_ret
      exact ⟨ret_int HE.out.symm, rfl⟩
    · have E := fdiv_unlike a b h0 hr (by simp [h1, h2])
      have HE := Lib.hid E; clear E
      go_enter Tryz.func119, Tryz.ntmps119
      go_wp2
      go_ret
      exact ⟨ret_int HE.out.symm, rfl⟩
    · have E := fdiv_alike a b hr (by simp [h1, h2])
      have HE := Lib.hid E; clear E
      go_enter Tryz.func119, Tryz.ntmps119
      go_wp2
      go_ret
      exact ⟨ret_int HE.out.symm, rfl⟩

theorem lfl_any (a b : Int) (ha : -9000000000000000000 ≤ a) (ha' : a ≤ 9000000000000000000) (hb : -9000000000000000000 ≤ b) (hb' : b ≤ 9000000000000000000) (h0 : ¬ b = 0) (w : World) :
    Calls Tryz.prog 84 #[.int .i64 a, .int .i64 b] w fun e w' => e = .returned (.int .i64 (a.fdiv b)) ∧ w = w' := by
  have hd := tdiv_bd a b
  have hs := tmod_sgn a b
  have l1 : -9000000000000000000 ≤ a.tdiv b := by omega
  have l2 : a.tdiv b ≤ 9000000000000000000 := by omega
  clear hd
  by_cases hr : a.tmod b = 0
  · have E := fdiv_same a b hr
    have HE := Lib.hid E; clear E hs
    go_enter Tryz.func84, Tryz.ntmps84
    go_wp2
    go_ret
    exact ⟨ret_int HE.out.symm, rfl⟩
  · by_cases h1 : a < 0 <;> by_cases h2 : b < 0
    · have E := fdiv_alike a b hr (by have := hs.2 (by omega); simp [h2]; omega)
      have HE := Lib.hid E; clear E hs
      go_enter Tryz.func84, Tryz.ntmps84
      go_wp2
      go_ret
      exact ⟨ret_int HE.out.symm, rfl⟩
    · have E := fdiv_unlike a b h0 hr (by have := hs.2 (by omega); simp [h2]; omega)
      have HE := Lib.hid E; clear E hs
      go_enter Tryz.func84, Tryz.ntmps84
      go_wp2
      go_ret
      exact ⟨ret_int HE.out.symm, rfl⟩
    · have E := fdiv_unlike a b h0 hr (by have := hs.1 (by omega); simp [h2]; omega)
      have hr2 : ¬ a % b = 0 := by rw [← Int.tmod_eq_emod_of_nonneg (by omega)]; exact hr
      have HE := Lib.hid E; clear E hs
      go_enter Tryz.func84, Tryz.ntmps84
      go_wp2
      go_ret
      exact ⟨ret_int HE.out.symm, rfl⟩
    · have E := fdiv_alike a b hr (by have := hs.1 (by omega); simp [h2]; omega)
      have hr2 : ¬ a % b = 0 := by rw [← Int.tmod_eq_emod_of_nonneg (by omega)]; exact hr
      have HE := Lib.hid E; clear E hs
      go_enter Tryz.func84, Tryz.ntmps84
      go_wp2
      go_ret
      exact ⟨ret_int HE.out.symm, rfl⟩

/-- the quotient rounded up -/
def cdiv (a b : Int) : Int := -((-a).fdiv b)
theorem lce_any (a b : Int) (ha : -9000000000000000000 ≤ a) (ha' : a ≤ 9000000000000000000) (hb : -9000000000000000000 ≤ b) (hb' : b ≤ 9000000000000000000) (h0 : ¬ b = 0) (w : World) :
    Calls Tryz.prog 85 #[.int .i64 a, .int .i64 b] w fun e w' => e = .returned (.int .i64 (cdiv a b)) ∧ w = w' := by
  have hd := fdiv_bd (-a) b
  have l1 : -9000000000000000001 ≤ (-a).fdiv b := by omega
  have l2 : (-a).fdiv b ≤ 9000000000000000000 := by omega
  clear hd
  go_enter Tryz.func85, Tryz.ntmps85
  go_wp2_with (go_at_call 84; refine (lfl_any _ _ (by omega) (by omega) (by omega) (by omega) h0 _).mono ?_; rintro e w' ⟨rfl, rfl⟩)
  go_ret
  exact ⟨ret_int rfl, rfl⟩

theorem cq_any (a b : Int) (ha : -9000000000000000000 ≤ a) (ha' : a ≤ 9000000000000000000) (hb : -9000000000000000000 ≤ b) (hb' : b ≤ 9000000000000000000) (h0 : ¬ b = 0) (w : World) :
    Calls Tryz.prog 121 #[.int .i64 a, .int .i64 b] w fun e w' => e = .returned (.int .i64 (cdiv a b)) ∧ w = w' := by
  have hd := fdiv_bd (-a) b
  have l1 : -9000000000000000001 ≤ (-a).fdiv b := by omega
  have l2 : (-a).fdiv b ≤ 9000000000000000000 := by omega
  clear hd
  go_enter Tryz.func121, Tryz.ntmps121
  go_wp2_with (go_at_call 119; refine (fq_any _ _ (by omega) (by omega) (by omega) (by omega) h0 _).mono ?_; rintro e w' ⟨rfl, rfl⟩)
  go_ret
  exact ⟨ret_int rfl, rfl⟩

open Go.ChangeShapes Go.WideShapes Go.ChangeAt Go.RowKit Num
set_option linter.unusedVariables false
theorem ret_int3 {a b c a' b' c' : Int} (h : a = a') (h2 : b = b') (h3 : c = c') : Ending.returned (.tuple #[.int .i64 a, .int .i64 b, .int .i64 c]) = .returned (.tuple #[.int .i64 a', .int .i64 b', .int .i64 c']) := by rw [h, h2, h3]
theorem ret_int2 {a b a' b' : Int} (h : a = a') (h2 : b = b') : Ending.returned (.tuple #[.int .i64 a, .int .i64 b]) = .returned (.tuple #[.int .i64 a', .int .i64 b']) := by rw [h, h2]
open Go.ChangeShapes Go.WideShapes Go.ChangeAt Go.RowKit Num
set_option linter.unusedVariables false

theorem igd_any (a b : Int) (a1 : -9000000000000000000 ≤ a) (a2 : a ≤ 9000000000000000000) (b1 : -9000000000000000000 ≤ b) (b2 : b ≤ 9000000000000000000) (w : World) :
    Calls Tryz.prog 62 #[.int .i64 a, .int .i64 b] w fun e w' => e = .returned (.int .i64 (gc a b)) ∧ ∃ n, w' = w.drewN n := by
  go_enter Tryz.func62, Tryz.ntmps62
  go_wp2
  go_loopw [0, 1] (fun l h wr => ∃ x y : Int, (∃ n, wr = w.drewN n) ∧ l = .int .i64 x ∧ h = .int .i64 y ∧ -9000000000000000000 ≤ x ∧ x ≤ 9000000000000000000 ∧ -9000000000000000000 ≤ y ∧ y ≤ 9000000000000000000 ∧ gc x y = gc a b) (fun l h _ => (intOf h).natAbs)
  case atStart => exact ⟨a, b, ⟨0, rfl⟩, rfl, rfl, a1, a2, b1, b2, rfl⟩
  case round =>
    obtain ⟨x, y, ⟨n, rfl⟩, rfl, rfl, x1, x2, y1, y2, hg⟩ := hrel
    have HG := Lib.hid hg
    clear hg
    by_cases hy : y = 0
    · subst hy
      by_cases hx : x < 0
      all_goals
        go_wp2
        go_ret
        exact ⟨ret_int (by rw [← HG.out, gc_zero]; omega), n, rfl⟩
    · have hy0 : (y == 0) = false := by simpa using hy
      have hm := tmod_abs x y hy
      have m1 : -9000000000000000000 ≤ x.tmod y := by omega
      have m2 : x.tmod y ≤ 9000000000000000000 := by omega
      go_wp2
      go_quiet (fail)
      go_wp2
      go_roundw
      case rel => exact ⟨y, x.tmod y, ⟨n + nq, World.drewN_drewN _ _ _⟩, rfl, rfl, y1, y2, m1, m2, by rw [gc_step]; exact HG.out⟩
      case measure => exact hm

theorem ldv_any (a b : Int) (a1 : -9000000000000000000 ≤ a) (a2 : a ≤ 9000000000000000000) (b1 : -9000000000000000000 ≤ b) (b2 : b ≤ 9000000000000000000) (w : World) :
    Calls Tryz.prog 65 #[.int .i64 a, .int .i64 b] w fun e w' => e = .returned (.int .i64 (gc a b)) ∧ ∃ n, w' = w.drewN n := by
  go_enter Tryz.func65, Tryz.ntmps65
  go_wp2_with (go_at_call 74; refine (lab_any _ (by omega) (by omega) _).mono ?_; rintro e w' ⟨rfl, rfl⟩)
  go_loopw [0, 1] (fun l h wr => ∃ x y : Int, (∃ n, wr = w.drewN n) ∧ l = .int .i64 x ∧ h = .int .i64 y ∧ 0 ≤ x ∧ x ≤ 9000000000000000000 ∧ 0 ≤ y ∧ y ≤ 9000000000000000000 ∧ gc x y = gc a b) (fun l h _ => (intOf h).natAbs)
  case atStart => exact ⟨(a.natAbs : Int), (b.natAbs : Int), ⟨0, rfl⟩, rfl, rfl, by omega, by omega, by omega, by omega, gc_abs a b⟩
  case round =>
    obtain ⟨x, y, ⟨n, rfl⟩, rfl, rfl, x1, x2, y1, y2, hg⟩ := hrel
    have HG := Lib.hid hg
    clear hg
    by_cases hy : y = 0
    · subst hy
      go_wp2
      go_ret
      exact ⟨ret_int (by rw [← HG.out, gc_zero]; omega), n, rfl⟩
    · have hm := tmod_abs x y hy
      have ht := Int.tmod_nonneg y x1
      have he : x.tmod y = x % y := Int.tmod_eq_emod_of_nonneg x1
      have HE := Lib.hid he
      rw [he] at hm ht
      clear he
      have m2 : x % y ≤ 9000000000000000000 := by omega
      go_wp2
      go_quiet (fail)
      go_wp2
      go_roundw
      case rel => exact ⟨y, x % y, ⟨n + nq, World.drewN_drewN _ _ _⟩, rfl, rfl, y1, y2, ht, m2, by rw [← HE.out, gc_step]; exact HG.out⟩
      case measure => simp [intOf]; omega
open Go.ChangeShapes Go.WideShapes Go.ChangeAt Go.RowKit Num
set_option linter.unusedVariables false

theorem mul_abs {a n : Int} {A N : Nat} (ha : a.natAbs ≤ A) (hn : n.natAbs ≤ N) : (a * n).natAbs ≤ A * N := by rw [Int.natAbs_mul]; exact Nat.mul_le_mul ha hn
/-- the interval from a to b is valid -/
def vldB (a b : Int) : Bool := valB a && valB b && decide (a ≤ b)
/-- x lies in the interval from a to b -/
def hasB (a b x : Int) : Bool := decide (a ≤ x) && decide (x ≤ b)

theorem vld_any (a b : Int) (w : World) :
    Calls Tryz.prog 71 #[.agg #[.int .i64 a, .int .i64 b]] w fun e w' => e = .returned (.bool (vldB a b)) ∧ w' = w.alloc (.cells #[.int .i64 a, .int .i64 b] 34) := by
  cases ha : valB a <;> cases hb : valB b <;> cases h0 : decide (a ≤ b)
  all_goals
    go_enter Tryz.func71, Tryz.ntmps71
    go_wp2_with (go_at_call 80; refine (isv_any _ _).mono ?_; rintro e w' ⟨rfl, rfl⟩)
    go_ret
    exact ⟨ret_bool (by unfold vldB; rw [ha, hb, h0]; rfl), rfl⟩
theorem has_any (a b x : Int) (w : World) :
    Calls Tryz.prog 61 #[.agg #[.int .i64 a, .int .i64 b], .int .i64 x] w fun e w' => e = .returned (.bool (hasB a b x)) ∧ w' = w.alloc (.cells #[.int .i64 a, .int .i64 b] 34) := by
  cases ha : decide (a ≤ x) <;> cases hb : decide (x ≤ b)
  all_goals
    go_enter Tryz.func61, Tryz.ntmps61
    go_wp2
    go_ret
    exact ⟨ret_bool (by unfold hasB; rw [ha, hb]; rfl), rfl⟩

theorem lacks_any (a b x : Int) (w : World) :
    Calls Tryz.prog 35 #[.agg #[.int .i64 a, .int .i64 b], .int .i64 x] w fun e w' => e = .returned (.bool (!hasB a b x)) ∧ w' = (w.alloc (.cells #[.int .i64 a, .int .i64 b] 34)).alloc (.cells #[.int .i64 a, .int .i64 b] 34) := by
  go_enter Tryz.func35, Tryz.ntmps35
  go_wp2_with (go_at_call 61; refine (has_any _ _ _ _).mono ?_; rintro e w' ⟨rfl, rfl⟩)
  go_ret
  exact ⟨rfl, rfl⟩

open Go.ChangeShapes Go.WideShapes Go.ChangeAt Go.RowKit Num
set_option linter.unusedVariables false

theorem resT_of {T : Int × Int × Int} {l h c : Int} (e : T = (l, h, c)) : Ending.returned (.tuple #[.agg #[.int .i64 l, .int .i64 h], .int .i64 c]) = .returned (.tuple #[.agg #[.int .i64 T.1, .int .i64 T.2.1], .int .i64 T.2.2]) := by rw [e]

open Go.ChangeShapes Go.WideShapes Go.ChangeAt Go.RowKit Num
set_option linter.unusedVariables false
open Go.ChangeShapes Go.WideShapes Go.ChangeAt Go.RowKit
set_option linter.unusedVariables false
attribute [local go_sem ↓] Go.wp_at_zero Go.wp_at_succ

open Go.ChangeShapes Go.WideShapes Go.ChangeAt Go.RowKit
set_option linter.unusedVariables false
/-- what a walk is told of a slice of integers that came in -/
def IsRow (k : IntKind) (w : World) (a : Option Addr) (len cap : Nat) (zs : List Int) : Prop :=
  (a = none ∧ len = 0 ∧ cap = 0 ∧ zs = []) ∨
  ∃ x, a = some x ∧ len ≤ cap ∧ cap ≤ maxLen ∧ zs.length = cap ∧ (∀ i, i < zs.length → w.cell? (x.add i) = some (.int k (zs.getD i 0))) ∧ ∀ n ∈ zs, (Lit.int k n).wf = true

/-- the slice at 'a' reads as the numbers 'zs'; its memory lies below block B -/
def Ints (k : IntKind) (w : World) (B : Nat) (a : Option Addr) (zs : List Int) : Prop :=
  0 < zs.length → ∃ b off, a = some ⟨b, off, none⟩ ∧ b < B ∧ ∀ j, j < zs.length → w.cell? ⟨b, off + j, none⟩ = some (.int k (zs.getD j 0))

theorem cell_lt {w : World} {b off : Nat} {v : Value} (h : w.cell? ⟨b, off, none⟩ = some v) : b < w.heap.size := by
  rcases Nat.lt_or_ge b w.heap.size with hl | hg
  · exact hl
  · simp [World.cell?, hg] at h

theorem Ints.of_row {k : IntKind} {w : World} {a : Option Addr} {len cap : Nat} {zs : List Int} (h : IsRow k w a len cap zs) :
    len ≤ 9223372036854775807 ∧ (zs.take len).length = len ∧ Ints k w w.heap.size a (zs.take len) ∧ ∀ n ∈ zs.take len, (Lit.int k n).wf = true := by
  rcases h with ⟨rfl, rfl, rfl, rfl⟩ | ⟨x, rfl, hl, hm, hz, hc, hw⟩
  · exact ⟨by omega, rfl, fun h => by simp at h, fun n hn => by simp at hn⟩
  · have e : (zs.take len).length = len := by simp; omega
    unfold maxLen at hm
    refine ⟨by omega, e, fun h => ?_, fun n hn => hw n (List.mem_of_mem_take hn)⟩
    obtain ⟨b, off, rfl, hcell⟩ := ints_at hc (by omega)
    refine ⟨b, off, rfl, cell_lt (hcell 0 (by omega)), fun j hj => ?_⟩
    rw [hcell j (by omega)]
    congr 2
    rw [List.getD_eq_getElem?_getD, List.getD_eq_getElem?_getD, List.getElem?_take, if_pos (by omega)]

theorem Ints.below {k : IntKind} {w w' : World} {B : Nat} {a : Option Addr} {zs : List Int} (h : Ints k w B a zs) (hb : Below B w w') : Ints k w' B a zs := fun hp => by
  obtain ⟨b, off, e, hB, hc⟩ := h hp
  exact ⟨b, off, e, hB, fun j hj => (hb.cell (p := ⟨b, off + j, none⟩) hB).trans (hc j hj)⟩
theorem Ints.more {k : IntKind} {w : World} {B B' : Nat} {a : Option Addr} {zs : List Int} (h : Ints k w B a zs) (hb : B ≤ B') : Ints k w B' a zs := fun hp => by
  obtain ⟨b, off, e, hB, hc⟩ := h hp
  exact ⟨b, off, e, by omega, hc⟩
theorem Ints.drewN {k : IntKind} {w : World} {B : Nat} {a : Option Addr} {zs : List Int} (h : Ints k w B a zs) (n : Nat) : Ints k (w.drewN n) B a zs := h
/-- the cell of an element -/
theorem Ints.at_ {k : IntKind} {w : World} {B : Nat} {a : Option Addr} {zs : List Int} (h : Ints k w B a zs) {j : Nat} (hj : j < zs.length) :
    ∃ b off, a = some ⟨b, off, none⟩ ∧ b < B ∧ w.cell? ⟨b, off + j, none⟩ = some (.int k (zs.getD j 0)) := by
  obtain ⟨b, off, e, hB, hc⟩ := h (by omega)
  exact ⟨b, off, e, hB, hc j hj⟩
open Go.ChangeShapes Go.WideShapes Go.ChangeAt Go.RowKit Num
set_option linter.unusedVariables false
theorem info_i64 : (Tryz.prog.info? 2).map (fun i => (i.zero, i.size, i.bytes)) = some (some (.int .i64 0), 1, 8) := by kernel_rfl
end
section
/- Contracts of valid fractions and of lowest terms, the program's and the model's. Contracts of the sum, the product, the mediant, the inverse of fractions, of made and compared ones and of bounds of multiples, the program's and the model's. The walks of the exact laws of IsRatio, MakeRatio, InvertRatio and RatioBounds: each returns true and writes nothing that was there. -/
open Go.ChangeShapes Go.WideShapes Go.ChangeAt Go.RowKit Num
set_option linter.unusedVariables false

open Go.ChangeShapes Go.WideShapes Go.ChangeAt Go.RowKit Num
set_option linter.unusedVariables false
open Go.ChangeShapes Go.WideShapes Go.ChangeAt Go.RowKit Num
set_option linter.unusedVariables false
end
section
/- Slices of intervals as lists of pairs: contracts of the checks over them, of their sum and of their hull. -/
open Go.ChangeShapes Go.WideShapes Go.ChangeAt Go.RowKit Num
set_option linter.unusedVariables false
end
section
/- Contracts of EncloseAll, the program's and the model's. -/
open Go.ChangeShapes Go.WideShapes Go.ChangeAt Go.RowKit Num
set_option linter.unusedVariables false
def mnI (a c : Int) : Int := if c < a then c else a
def mxI (b d : Int) : Int := if b < d then d else b
theorem mnI_t {a c : Int} (h : c < a) : mnI a c = c := by unfold mnI; rw [if_pos h]
theorem mnI_f {a c : Int} (h : a ≤ c) : mnI a c = a := by unfold mnI; rw [if_neg (by omega)]
theorem mxI_t {b d : Int} (h : b < d) : mxI b d = d := by unfold mxI; rw [if_pos h]
theorem mxI_f {b d : Int} (h : d ≤ b) : mxI b d = b := by unfold mxI; rw [if_neg (by omega)]
theorem ret_agg2 {a b c d : Int} (h : a = c) (g : b = d) : Ending.returned (.agg #[.int .i64 a, .int .i64 b]) = .returned (.agg #[.int .i64 c, .int .i64 d]) := by rw [h, g]
theorem jwi_any (a b c d : Int) (w : World) :
    Calls Tryz.prog 54 #[.agg #[.int .i64 a, .int .i64 b], .agg #[.int .i64 c, .int .i64 d]] w fun e w' => e = .returned (.agg #[.int .i64 (mnI a c), .int .i64 (mxI b d)]) ∧ Below w.heap.size w w' := by
  by_cases h1 : c < a <;> by_cases h2 : b < d
  · go_enter Tryz.func54, Tryz.ntmps54
    go_wp2
    exact bodyPost_ret (v := .agg #[.int .i64 c, .int .i64 d]) (by simp [results, Tryz.results54, go_sem]) rfl ⟨ret_agg2 (mnI_t h1).symm (mxI_t h2).symm, (by repeat (first | exact Below.refl _ _ | (refine Below.alloc ?_ (by simp <;> omega) _) | (refine Below.setCell ?_ (by simp <;> omega) _) | (refine Below.drew ?_) | (refine bel_drewN ?_ _)))⟩
  · go_enter Tryz.func54, Tryz.ntmps54
    go_wp2
    exact bodyPost_ret (v := .agg #[.int .i64 c, .int .i64 b]) (by simp [results, Tryz.results54, go_sem]) rfl ⟨ret_agg2 (mnI_t h1).symm (mxI_f (by omega)).symm, (by repeat (first | exact Below.refl _ _ | (refine Below.alloc ?_ (by simp <;> omega) _) | (refine Below.setCell ?_ (by simp <;> omega) _) | (refine Below.drew ?_) | (refine bel_drewN ?_ _)))⟩
  · go_enter Tryz.func54, Tryz.ntmps54
    go_wp2
    exact bodyPost_ret (v := .agg #[.int .i64 a, .int .i64 d]) (by simp [results, Tryz.results54, go_sem]) rfl ⟨ret_agg2 (mnI_f (by omega)).symm (mxI_t h2).symm, (by repeat (first | exact Below.refl _ _ | (refine Below.alloc ?_ (by simp <;> omega) _) | (refine Below.setCell ?_ (by simp <;> omega) _) | (refine Below.drew ?_) | (refine bel_drewN ?_ _)))⟩
  · go_enter Tryz.func54, Tryz.ntmps54
    go_wp2
    exact bodyPost_ret (v := .agg #[.int .i64 a, .int .i64 b]) (by simp [results, Tryz.results54, go_sem]) rfl ⟨ret_agg2 (mnI_f (by omega)).symm (mxI_f (by omega)).symm, (by repeat (first | exact Below.refl _ _ | (refine Below.alloc ?_ (by simp <;> omega) _) | (refine Below.setCell ?_ (by simp <;> omega) _) | (refine Below.drew ?_) | (refine bel_drewN ?_ _)))⟩
end
end Go.Proofs.YtgecbfbmmbfnmaaGreat
