/- Contracts of fans: IsFan, LiesBetween, the program's and the model's. -/
import Derived.Test.YtgecbfbmmbfnmaaOwD
import Derived.Test.YtgecbfbmmbfnmaaDrc
import Derived.Test.YtgecbfbmmbfnmaaDrm
import Derived.Handy
import Derived.Outline
import Derived.LoopTactic
import Derived.Deep.RegionHeld3
import Derived.Deep.DeepCutAuto
import Derived.Deep.RegionWith
namespace Go.Proofs.Ytgecbfbmmbfnmaa
open Go.ChangeShapes Go.WideShapes Go.ChangeAt Go.RowKit Go.Shelf Num
set_option linter.unusedVariables false
set_option linter.unusedSimpArgs false

/-- do three numbers give a fan? -/
def fanB (n lo hi : Int) : Bool := mnB hi n && decide (1 ≤ lo) && decide (lo ≤ hi)
theorem fanB_t {n lo hi : Int} (h : fanB n lo hi = true) : 1 ≤ lo ∧ lo ≤ hi ∧ hi < n ∧ n ≤ 1000 ∧ n * n + hi * hi ≤ 1000 := by
  unfold fanB at h
  simp only [Bool.and_eq_true, decide_eq_true_eq] at h
  obtain ⟨⟨h1, h2⟩, h3⟩ := h
  obtain ⟨m1, m2, m3, m4⟩ := mnB_t h1
  exact ⟨h2, h3, m2, m3, m4⟩
theorem fanB_mk {n lo hi : Int} (h1 : 1 ≤ lo) (h2 : lo ≤ hi) (h3 : hi < n) (h4 : n ≤ 1000) (h5 : n * n + hi * hi ≤ 1000) : fanB n lo hi = true := by
  unfold fanB mnB
  simp only [Bool.and_eq_true, decide_eq_true_eq]
  exact ⟨⟨⟨⟨⟨by omega, h3⟩, h4⟩, h5⟩, h1⟩, h2⟩
theorem fanB_f {n lo hi : Int} (h : ¬ (1 ≤ lo ∧ lo ≤ hi ∧ hi < n ∧ n ≤ 1000 ∧ n * n + hi * hi ≤ 1000)) : fanB n lo hi = false := by
  cases e : fanB n lo hi
  · rfl
  · exact absurd (fanB_t e) h
theorem sgn_flip (a b : Int) : sgn a b = - sgn b a := by
  unfold sgn
  rcases Int.lt_trichotomy a b with h | h | h
  · rw [if_pos h, if_neg (by omega), if_pos h]
  · rw [if_neg (by omega), if_neg (by omega), if_neg (by omega), if_neg (by omega)]; rfl
  · rw [if_neg (by omega), if_pos h, if_pos h]; rfl
theorem sgn_bd (a b : Int) : sgn a b = -1 ∨ sgn a b = 0 ∨ sgn a b = 1 := by unfold sgn; split; simp; split <;> simp
/-- does the third direction lie between the others? -/
def lbB (c s h x y z u v t : Int) : Bool := dirB c s h && dirB x y z && dirB u v t && (decide (0 < s) == decide (0 < y)) && (decide (0 < s) == decide (0 < v)) && decide (sgn (c * t) (u * h) * sgn (x * t) (u * z) ≤ 0)
theorem bneB {a b : Bool} (h : (a != b) = true) : (a == b) = false := by cases a <;> cases b <;> simp_all
/-- as the program asks for it -/
theorem lb_impl (c s h x y z u v t : Int) : lbB c s h x y z u v t = (!((decide (0 < s) != decide (0 < v)) || (decide (0 < v) != decide (0 < y))) && (cdC c s h u v t == 0) && (cdC u v t x y z == 0) && decide (0 ≤ cdV c s h u v t * cdV u v t x y z)) := by
  unfold lbB cdC cdV
  obtain ⟨A, hA⟩ : ∃ A, sgn (c * t) (u * h) = A := ⟨_, rfl⟩
  obtain ⟨B, hB⟩ : ∃ A, sgn (x * t) (u * z) = A := ⟨_, rfl⟩
  rw [sgn_flip (u * z) (x * t), hB, hA]
  have e : decide (A * B ≤ 0) = decide (0 ≤ A * -B) := by
    rw [Int.mul_neg]
    by_cases g : A * B ≤ 0
    · rw [decide_eq_true g, decide_eq_true (by omega)]
    · rw [decide_eq_false g, decide_eq_false (by omega)]
  rw [e]
  clear hA hB e
  generalize decide (0 < s) = d1
  generalize decide (0 < v) = d3
  generalize decide (0 < y) = d2
  cases dirB c s h <;> cases dirB x y z <;> cases dirB u v t <;> cases d1 <;> cases d2 <;> cases d3 <;> first | rfl | (simp; done)

set_option maxRecDepth 100000 in
set_option maxHeartbeats 2000000 in
theorem gdw_any (c s h : Int) (w : World) :
    Calls Try.prog 39 #[.agg #[.int .i64 c, .int .i64 s, .int .i64 h]] w fun e w' => e = .returned (.bool (decide (0 < s))) ∧ Below w.heap.size w w' := by
  by_cases g : 0 < s
  all_goals
    first | rw [decide_eq_true g] | rw [decide_eq_false g]
    go_enter Try.func39, Try.ntmps39
    go_wp2
    go_ret
    exact ⟨rfl, (by repeat (first | exact Below.refl _ _ | (refine Below.alloc ?_ (by simp <;> omega) _) | (refine Below.setCell ?_ (by simp <;> omega) _) | (refine Below.drew ?_) | (refine bel_drewN ?_ _)))⟩

set_option maxRecDepth 100000 in
set_option maxHeartbeats 2000000 in
theorem alk_any (c s h x y z : Int) (w : World) :
    Calls Try.prog 31 #[.agg #[.int .i64 c, .int .i64 s, .int .i64 h], .agg #[.int .i64 x, .int .i64 y, .int .i64 z]] w fun e w' => e = .returned (.bool (decide (0 < s) == decide (0 < y))) ∧ Below w.heap.size w w' := by
  by_cases g : 0 < s <;> by_cases g2 : 0 < y
  all_goals
    first | rw [decide_eq_true g] | rw [decide_eq_false g]
    first | rw [decide_eq_true g2] | rw [decide_eq_false g2]
    go_enter Try.func31, Try.ntmps31
    go_wp2
    go_ret
    exact ⟨rfl, (by repeat (first | exact Below.refl _ _ | (refine Below.alloc ?_ (by simp <;> omega) _) | (refine Below.setCell ?_ (by simp <;> omega) _) | (refine Below.drew ?_) | (refine bel_drewN ?_ _)))⟩

end Go.Proofs.Ytgecbfbmmbfnmaa
