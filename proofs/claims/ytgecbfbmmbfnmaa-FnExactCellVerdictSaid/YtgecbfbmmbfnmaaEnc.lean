/- Contracts of EncloseAll, the program's and the model's. -/
import Derived.Test.YtgecbfbmmbfnmaaIvs
namespace Go.Proofs.Ytgecbfbmmbfnmaa
open Go.ChangeShapes Go.WideShapes Go.ChangeAt Go.RowKit Num
set_option linter.unusedVariables false
def mnI (a c : Int) : Int := if c < a then c else a
def mxI (b d : Int) : Int := if b < d then d else b
theorem mnI_t {a c : Int} (h : c < a) : mnI a c = c := by unfold mnI; rw [if_pos h]
theorem mnI_f {a c : Int} (h : a ≤ c) : mnI a c = a := by unfold mnI; rw [if_neg (by omega)]
theorem mxI_t {b d : Int} (h : b < d) : mxI b d = d := by unfold mxI; rw [if_pos h]
theorem mxI_f {b d : Int} (h : d ≤ b) : mxI b d = b := by unfold mxI; rw [if_neg (by omega)]
theorem ret_agg2 {a b c d : Int} (h : a = c) (g : b = d) : Ending.returned (.agg #[.int .i64 a, .int .i64 b]) = .returned (.agg #[.int .i64 c, .int .i64 d]) := by rw [h, g]
theorem jwi_any (a b c d : Int) (w : World) :
    Calls Try.prog 46 #[.agg #[.int .i64 a, .int .i64 b], .agg #[.int .i64 c, .int .i64 d]] w fun e w' => e = .returned (.agg #[.int .i64 (mnI a c), .int .i64 (mxI b d)]) ∧ Below w.heap.size w w' := by
  by_cases h1 : c < a <;> by_cases h2 : b < d
  · go_enter Try.func46, Try.ntmps46
    go_wp2
    exact bodyPost_ret (v := .agg #[.int .i64 c, .int .i64 d]) (by simp [results, Try.results46, go_sem]) rfl ⟨ret_agg2 (mnI_t h1).symm (mxI_t h2).symm, (by repeat (first | exact Below.refl _ _ | (refine Below.alloc ?_ (by simp <;> omega) _) | (refine Below.setCell ?_ (by simp <;> omega) _) | (refine Below.drew ?_) | (refine bel_drewN ?_ _)))⟩
  · go_enter Try.func46, Try.ntmps46
    go_wp2
    exact bodyPost_ret (v := .agg #[.int .i64 c, .int .i64 b]) (by simp [results, Try.results46, go_sem]) rfl ⟨ret_agg2 (mnI_t h1).symm (mxI_f (by omega)).symm, (by repeat (first | exact Below.refl _ _ | (refine Below.alloc ?_ (by simp <;> omega) _) | (refine Below.setCell ?_ (by simp <;> omega) _) | (refine Below.drew ?_) | (refine bel_drewN ?_ _)))⟩
  · go_enter Try.func46, Try.ntmps46
    go_wp2
    exact bodyPost_ret (v := .agg #[.int .i64 a, .int .i64 d]) (by simp [results, Try.results46, go_sem]) rfl ⟨ret_agg2 (mnI_f (by omega)).symm (mxI_t h2).symm, (by repeat (first | exact Below.refl _ _ | (refine Below.alloc ?_ (by simp <;> omega) _) | (refine Below.setCell ?_ (by simp <;> omega) _) | (refine Below.drew ?_) | (refine bel_drewN ?_ _)))⟩
  · go_enter Try.func46, Try.ntmps46
    go_wp2
    exact bodyPost_ret (v := .agg #[.int .i64 a, .int .i64 b]) (by simp [results, Try.results46, go_sem]) rfl ⟨ret_agg2 (mnI_f (by omega)).symm (mxI_f (by omega)).symm, (by repeat (first | exact Below.refl _ _ | (refine Below.alloc ?_ (by simp <;> omega) _) | (refine Below.setCell ?_ (by simp <;> omega) _) | (refine Below.drew ?_) | (refine bel_drewN ?_ _)))⟩

def hulL (ps : List (Int × Int)) : Nat → Int | 0 => (ps.getD 0 (0, 0)).1 | k + 1 => mnI (hulL ps k) (ps.getD (k + 1) (0, 0)).1
def hulH (ps : List (Int × Int)) : Nat → Int | 0 => (ps.getD 0 (0, 0)).2 | k + 1 => mxI (hulH ps k) (ps.getD (k + 1) (0, 0)).2
/-- the hull -/
def encT (ps : List (Int × Int)) : Int × Int × Int := if ierr ps = 0 then (if ps.length = 0 then (0, 0, 4) else (hulL ps (ps.length - 1), hulH ps (ps.length - 1), 0)) else (0, 0, ierr ps)
theorem encT_ok {ps : List (Int × Int)} (h : ierr ps = 0) (g : ¬ ps.length = 0) : encT ps = (hulL ps (ps.length - 1), hulH ps (ps.length - 1), 0) := by unfold encT; rw [if_pos h, if_neg g]
theorem encT_none {ps : List (Int × Int)} (h : ierr ps = 0) (g : ps.length = 0) : encT ps = (0, 0, 4) := by unfold encT; rw [if_pos h, if_pos g]
theorem encT_bad {ps : List (Int × Int)} (h : ¬ ierr ps = 0) : encT ps = (0, 0, ierr ps) := by unfold encT; rw [if_neg h]
end Go.Proofs.Ytgecbfbmmbfnmaa
