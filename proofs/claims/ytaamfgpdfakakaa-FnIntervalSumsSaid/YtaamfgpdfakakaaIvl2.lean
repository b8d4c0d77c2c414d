/- Contracts of the common part of two intervals, of results within the values, and of a number in an interval, the program's and the model's. -/
import Derived.Test.YtaamfgpdfakakaaIvl
import Derived.Outline
import Derived.Deep.QuietTactic
import Derived.BigQuiet
import Derived.WalkSpells
import Derived.WalkLawsBesides
namespace Go.Proofs.Ytaamfgpdfakakaa
open Go.ChangeShapes Go.WideShapes Go.ChangeAt Go.RowKit Num
set_option linter.unusedVariables false

/-- an interval and a code, as a result -/
def resT (T : Int × Int × Int) : Value := .tuple #[.agg #[.int .i64 T.1, .int .i64 T.2.1], .int .i64 T.2.2]
theorem resT_of {T : Int × Int × Int} {l h c : Int} (e : T = (l, h, c)) : Ending.returned (.tuple #[.agg #[.int .i64 l, .int .i64 h], .int .i64 c]) = .returned (.tuple #[.agg #[.int .i64 T.1, .int .i64 T.2.1], .int .i64 T.2.2]) := by rw [e]

/-- the interval from l to h, if both bounds are values -/
def within (l h : Int) : Int × Int × Int := if valB l && valB h then (l, h, 0) else (0, 0, 2)
theorem wvs_any (a b : Int) (w : World) :
    Calls Try.prog 82 #[.agg #[.int .i64 a, .int .i64 b]] w fun e w' => e = .returned (.tuple #[.agg #[.int .i64 (within a b).1, .int .i64 (within a b).2.1], .int .i64 (within a b).2.2]) ∧ Below w.heap.size w w' := by
  cases ha : valB a <;> cases hb : valB b
  case true.true =>
    go_enter Try.func82, Try.ntmps82
    go_wp2_with (go_at_call 73; refine (isv_any _ _).mono ?_; rintro e w' ⟨rfl, rfl⟩)
    exact bodyPost_ret (v := .tuple #[.agg #[.int .i64 a, .int .i64 b], .int .i64 0]) (by simp [results, Try.results82, go_sem]) rfl ⟨resT_of (by unfold within; rw [ha, hb]; rfl), (by repeat (first | exact Below.refl _ _ | (refine Below.alloc ?_ (by simp <;> omega) _) | (refine Below.setCell ?_ (by simp <;> omega) _) | (refine Below.drew ?_) | (refine bel_drewN ?_ _)))⟩
  all_goals
    go_enter Try.func82, Try.ntmps82
    go_wp2_with (go_at_call 73; refine (isv_any _ _).mono ?_; rintro e w' ⟨rfl, rfl⟩)
    exact bodyPost_ret (v := .tuple #[.agg #[.int .i64 0, .int .i64 0], .int .i64 2]) (by simp [results, Try.results82, go_sem]) rfl ⟨resT_of (by unfold within; rw [ha, hb]; rfl), (by repeat (first | exact Below.refl _ _ | (refine Below.alloc ?_ (by simp <;> omega) _) | (refine Below.setCell ?_ (by simp <;> omega) _) | (refine Below.drew ?_) | (refine bel_drewN ?_ _)))⟩

theorem lre_any (a b : Int) (w : World) :
    Calls Try.prog 85 #[.int .i64 a, .int .i64 b] w fun e w' => e = .returned (.tuple #[.agg #[.int .i64 (within a b).1, .int .i64 (within a b).2.1], .int .i64 (within a b).2.2]) ∧ Below w.heap.size w w' := by
  cases ha : valB a <;> cases hb : valB b
  case true.true =>
    go_enter Try.func85, Try.ntmps85
    go_wp2_with (go_at_call 76; refine (isl_any _ _).mono ?_; rintro e w' ⟨rfl, rfl⟩)
    exact bodyPost_ret (v := .tuple #[.agg #[.int .i64 a, .int .i64 b], .int .i64 0]) (by simp [results, Try.results85, go_sem]) rfl ⟨resT_of (by unfold within; rw [ha, hb]; rfl), (by repeat (first | exact Below.refl _ _ | (refine Below.alloc ?_ (by simp <;> omega) _) | (refine Below.setCell ?_ (by simp <;> omega) _) | (refine Below.drew ?_) | (refine bel_drewN ?_ _)))⟩
  all_goals
    go_enter Try.func85, Try.ntmps85
    go_wp2_with (go_at_call 76; refine (isl_any _ _).mono ?_; rintro e w' ⟨rfl, rfl⟩)
    exact bodyPost_ret (v := .tuple #[.agg #[.int .i64 0, .int .i64 0], .int .i64 2]) (by simp [results, Try.results85, go_sem]) rfl ⟨resT_of (by unfold within; rw [ha, hb]; rfl), (by repeat (first | exact Below.refl _ _ | (refine Below.alloc ?_ (by simp <;> omega) _) | (refine Below.setCell ?_ (by simp <;> omega) _) | (refine Below.drew ?_) | (refine bel_drewN ?_ _)))⟩

/-- the common part -/
def meetT (a b c d : Int) : Int × Int × Int := if vldB a b && vldB c d then (if max a c ≤ min b d then (max a c, min b d, 0) else (0, 0, 4)) else (0, 0, 1)

set_option maxHeartbeats 2000000 in
theorem imt_any (a b c d : Int) (w : World) :
    Calls Try.prog 59 #[.agg #[.int .i64 a, .int .i64 b], .agg #[.int .i64 c, .int .i64 d]] w fun e w' => e = .returned (.tuple #[.agg #[.int .i64 (meetT a b c d).1, .int .i64 (meetT a b c d).2.1], .int .i64 (meetT a b c d).2.2]) ∧ Below w.heap.size w w' := by
  cases ha : vldB a b <;> cases hb : vldB c d
  case true.true =>
    by_cases h1 : a < c <;> by_cases h2 : d < b
    · by_cases h3 : d < c
      · go_enter Try.func59, Try.ntmps59
        go_wp2_with (go_at_call 87; refine (vld_any _ _ _).mono ?_; rintro e w' ⟨rfl, rfl⟩)
        exact bodyPost_ret (v := .tuple #[.agg #[.int .i64 0, .int .i64 0], .int .i64 4]) (by simp [results, Try.results59, go_sem]) rfl ⟨resT_of (by unfold meetT; rw [ha, hb, show max a c = c by omega, show min b d = d by omega, if_pos (show (true && true) = true from rfl), if_neg (by omega)]), (by repeat (first | exact Below.refl _ _ | (refine Below.alloc ?_ (by simp <;> omega) _) | (refine Below.setCell ?_ (by simp <;> omega) _) | (refine Below.drew ?_) | (refine bel_drewN ?_ _)))⟩
      · go_enter Try.func59, Try.ntmps59
        go_wp2_with (go_at_call 87; refine (vld_any _ _ _).mono ?_; rintro e w' ⟨rfl, rfl⟩)
        exact bodyPost_ret (v := .tuple #[.agg #[.int .i64 c, .int .i64 d], .int .i64 0]) (by simp [results, Try.results59, go_sem]) rfl ⟨resT_of (by unfold meetT; rw [ha, hb, show max a c = c by omega, show min b d = d by omega, if_pos (show (true && true) = true from rfl), if_pos (by omega)]), (by repeat (first | exact Below.refl _ _ | (refine Below.alloc ?_ (by simp <;> omega) _) | (refine Below.setCell ?_ (by simp <;> omega) _) | (refine Below.drew ?_) | (refine bel_drewN ?_ _)))⟩
    · by_cases h3 : b < c
      · go_enter Try.func59, Try.ntmps59
        go_wp2_with (go_at_call 87; refine (vld_any _ _ _).mono ?_; rintro e w' ⟨rfl, rfl⟩)
        exact bodyPost_ret (v := .tuple #[.agg #[.int .i64 0, .int .i64 0], .int .i64 4]) (by simp [results, Try.results59, go_sem]) rfl ⟨resT_of (by unfold meetT; rw [ha, hb, show max a c = c by omega, show min b d = b by omega, if_pos (show (true && true) = true from rfl), if_neg (by omega)]), (by repeat (first | exact Below.refl _ _ | (refine Below.alloc ?_ (by simp <;> omega) _) | (refine Below.setCell ?_ (by simp <;> omega) _) | (refine Below.drew ?_) | (refine bel_drewN ?_ _)))⟩
      · go_enter Try.func59, Try.ntmps59
        go_wp2_with (go_at_call 87; refine (vld_any _ _ _).mono ?_; rintro e w' ⟨rfl, rfl⟩)
        exact bodyPost_ret (v := .tuple #[.agg #[.int .i64 c, .int .i64 b], .int .i64 0]) (by simp [results, Try.results59, go_sem]) rfl ⟨resT_of (by unfold meetT; rw [ha, hb, show max a c = c by omega, show min b d = b by omega, if_pos (show (true && true) = true from rfl), if_pos (by omega)]), (by repeat (first | exact Below.refl _ _ | (refine Below.alloc ?_ (by simp <;> omega) _) | (refine Below.setCell ?_ (by simp <;> omega) _) | (refine Below.drew ?_) | (refine bel_drewN ?_ _)))⟩
    · by_cases h3 : d < a
      · go_enter Try.func59, Try.ntmps59
        go_wp2_with (go_at_call 87; refine (vld_any _ _ _).mono ?_; rintro e w' ⟨rfl, rfl⟩)
        exact bodyPost_ret (v := .tuple #[.agg #[.int .i64 0, .int .i64 0], .int .i64 4]) (by simp [results, Try.results59, go_sem]) rfl ⟨resT_of (by unfold meetT; rw [ha, hb, show max a c = a by omega, show min b d = d by omega, if_pos (show (true && true) = true from rfl), if_neg (by omega)]), (by repeat (first | exact Below.refl _ _ | (refine Below.alloc ?_ (by simp <;> omega) _) | (refine Below.setCell ?_ (by simp <;> omega) _) | (refine Below.drew ?_) | (refine bel_drewN ?_ _)))⟩
      · go_enter Try.func59, Try.ntmps59
        go_wp2_with (go_at_call 87; refine (vld_any _ _ _).mono ?_; rintro e w' ⟨rfl, rfl⟩)
        exact bodyPost_ret (v := .tuple #[.agg #[.int .i64 a, .int .i64 d], .int .i64 0]) (by simp [results, Try.results59, go_sem]) rfl ⟨resT_of (by unfold meetT; rw [ha, hb, show max a c = a by omega, show min b d = d by omega, if_pos (show (true && true) = true from rfl), if_pos (by omega)]), (by repeat (first | exact Below.refl _ _ | (refine Below.alloc ?_ (by simp <;> omega) _) | (refine Below.setCell ?_ (by simp <;> omega) _) | (refine Below.drew ?_) | (refine bel_drewN ?_ _)))⟩
    · by_cases h3 : b < a
      · go_enter Try.func59, Try.ntmps59
        go_wp2_with (go_at_call 87; refine (vld_any _ _ _).mono ?_; rintro e w' ⟨rfl, rfl⟩)
        exact bodyPost_ret (v := .tuple #[.agg #[.int .i64 0, .int .i64 0], .int .i64 4]) (by simp [results, Try.results59, go_sem]) rfl ⟨resT_of (by unfold meetT; rw [ha, hb, show max a c = a by omega, show min b d = b by omega, if_pos (show (true && true) = true from rfl), if_neg (by omega)]), (by repeat (first | exact Below.refl _ _ | (refine Below.alloc ?_ (by simp <;> omega) _) | (refine Below.setCell ?_ (by simp <;> omega) _) | (refine Below.drew ?_) | (refine bel_drewN ?_ _)))⟩
      · go_enter Try.func59, Try.ntmps59
        go_wp2_with (go_at_call 87; refine (vld_any _ _ _).mono ?_; rintro e w' ⟨rfl, rfl⟩)
        exact bodyPost_ret (v := .tuple #[.agg #[.int .i64 a, .int .i64 b], .int .i64 0]) (by simp [results, Try.results59, go_sem]) rfl ⟨resT_of (by unfold meetT; rw [ha, hb, show max a c = a by omega, show min b d = b by omega, if_pos (show (true && true) = true from rfl), if_pos (by omega)]), (by repeat (first | exact Below.refl _ _ | (refine Below.alloc ?_ (by simp <;> omega) _) | (refine Below.setCell ?_ (by simp <;> omega) _) | (refine Below.drew ?_) | (refine bel_drewN ?_ _)))⟩
  all_goals
    go_enter Try.func59, Try.ntmps59
    go_wp2_with (go_at_call 87; refine (vld_any _ _ _).mono ?_; rintro e w' ⟨rfl, rfl⟩)
    exact bodyPost_ret (v := .tuple #[.agg #[.int .i64 0, .int .i64 0], .int .i64 1]) (by simp [results, Try.results59, go_sem]) rfl ⟨resT_of (by unfold meetT; rw [ha, hb]; rfl), (by repeat (first | exact Below.refl _ _ | (refine Below.alloc ?_ (by simp <;> omega) _) | (refine Below.setCell ?_ (by simp <;> omega) _) | (refine Below.drew ?_) | (refine bel_drewN ?_ _)))⟩

set_option maxHeartbeats 2000000 in
theorem smt_any (a b c d : Int) (w : World) :
    Calls Try.prog 58 #[.agg #[.int .i64 a, .int .i64 b], .agg #[.int .i64 c, .int .i64 d]] w fun e w' => e = .returned (.tuple #[.agg #[.int .i64 (meetT a b c d).1, .int .i64 (meetT a b c d).2.1], .int .i64 (meetT a b c d).2.2]) ∧ Below w.heap.size w w' := by
  cases ha : vldB a b <;> cases hb : vldB c d
  case true.true =>
    by_cases h1 : a < c <;> by_cases h2 : d < b
    · by_cases h3 : d < c
      · go_enter Try.func58, Try.ntmps58
        go_wp2_with (go_at_call 51; refine (svl_any _ _ _).mono ?_; rintro e w' ⟨rfl, rfl⟩)
        go_quiet (fail)
        go_wp2
        exact bodyPost_ret (v := .tuple #[.agg #[.int .i64 0, .int .i64 0], .int .i64 4]) (by simp [results, Try.results58, go_sem]) rfl ⟨resT_of (by unfold meetT; rw [ha, hb, show max a c = c by omega, show min b d = d by omega, if_pos (show (true && true) = true from rfl), if_neg (by omega)]), (by repeat (first | exact Below.refl _ _ | (refine Below.alloc ?_ (by simp <;> omega) _) | (refine Below.setCell ?_ (by simp <;> omega) _) | (refine Below.drew ?_) | (refine bel_drewN ?_ _)))⟩
      · go_enter Try.func58, Try.ntmps58
        go_wp2_with (go_at_call 51; refine (svl_any _ _ _).mono ?_; rintro e w' ⟨rfl, rfl⟩)
        go_quiet (fail)
        go_wp2
        exact bodyPost_ret (v := .tuple #[.agg #[.int .i64 c, .int .i64 d], .int .i64 0]) (by simp [results, Try.results58, go_sem]) rfl ⟨resT_of (by unfold meetT; rw [ha, hb, show max a c = c by omega, show min b d = d by omega, if_pos (show (true && true) = true from rfl), if_pos (by omega)]), (by repeat (first | exact Below.refl _ _ | (refine Below.alloc ?_ (by simp <;> omega) _) | (refine Below.setCell ?_ (by simp <;> omega) _) | (refine Below.drew ?_) | (refine bel_drewN ?_ _)))⟩
    · by_cases h3 : b < c
      · go_enter Try.func58, Try.ntmps58
        go_wp2_with (go_at_call 51; refine (svl_any _ _ _).mono ?_; rintro e w' ⟨rfl, rfl⟩)
        go_quiet (fail)
        go_wp2
        exact bodyPost_ret (v := .tuple #[.agg #[.int .i64 0, .int .i64 0], .int .i64 4]) (by simp [results, Try.results58, go_sem]) rfl ⟨resT_of (by unfold meetT; rw [ha, hb, show max a c = c by omega, show min b d = b by omega, if_pos (show (true && true) = true from rfl), if_neg (by omega)]), (by repeat (first | exact Below.refl _ _ | (refine Below.alloc ?_ (by simp <;> omega) _) | (refine Below.setCell ?_ (by simp <;> omega) _) | (refine Below.drew ?_) | (refine bel_drewN ?_ _)))⟩
      · go_enter Try.func58, Try.ntmps58
        go_wp2_with (go_at_call 51; refine (svl_any _ _ _).mono ?_; rintro e w' ⟨rfl, rfl⟩)
        go_quiet (fail)
        go_wp2
        exact bodyPost_ret (v := .tuple #[.agg #[.int .i64 c, .int .i64 b], .int .i64 0]) (by simp [results, Try.results58, go_sem]) rfl ⟨resT_of (by unfold meetT; rw [ha, hb, show max a c = c by omega, show min b d = b by omega, if_pos (show (true && true) = true from rfl), if_pos (by omega)]), (by repeat (first | exact Below.refl _ _ | (refine Below.alloc ?_ (by simp <;> omega) _) | (refine Below.setCell ?_ (by simp <;> omega) _) | (refine Below.drew ?_) | (refine bel_drewN ?_ _)))⟩
    · by_cases h3 : d < a
      · go_enter Try.func58, Try.ntmps58
        go_wp2_with (go_at_call 51; refine (svl_any _ _ _).mono ?_; rintro e w' ⟨rfl, rfl⟩)
        go_quiet (fail)
        go_wp2
        exact bodyPost_ret (v := .tuple #[.agg #[.int .i64 0, .int .i64 0], .int .i64 4]) (by simp [results, Try.results58, go_sem]) rfl ⟨resT_of (by unfold meetT; rw [ha, hb, show max a c = a by omega, show min b d = d by omega, if_pos (show (true && true) = true from rfl), if_neg (by omega)]), (by repeat (first | exact Below.refl _ _ | (refine Below.alloc ?_ (by simp <;> omega) _) | (refine Below.setCell ?_ (by simp <;> omega) _) | (refine Below.drew ?_) | (refine bel_drewN ?_ _)))⟩
      · go_enter Try.func58, Try.ntmps58
        go_wp2_with (go_at_call 51; refine (svl_any _ _ _).mono ?_; rintro e w' ⟨rfl, rfl⟩)
        go_quiet (fail)
        go_wp2
        exact bodyPost_ret (v := .tuple #[.agg #[.int .i64 a, .int .i64 d], .int .i64 0]) (by simp [results, Try.results58, go_sem]) rfl ⟨resT_of (by unfold meetT; rw [ha, hb, show max a c = a by omega, show min b d = d by omega, if_pos (show (true && true) = true from rfl), if_pos (by omega)]), (by repeat (first | exact Below.refl _ _ | (refine Below.alloc ?_ (by simp <;> omega) _) | (refine Below.setCell ?_ (by simp <;> omega) _) | (refine Below.drew ?_) | (refine bel_drewN ?_ _)))⟩
    · by_cases h3 : b < a
      · go_enter Try.func58, Try.ntmps58
        go_wp2_with (go_at_call 51; refine (svl_any _ _ _).mono ?_; rintro e w' ⟨rfl, rfl⟩)
        go_quiet (fail)
        go_wp2
        exact bodyPost_ret (v := .tuple #[.agg #[.int .i64 0, .int .i64 0], .int .i64 4]) (by simp [results, Try.results58, go_sem]) rfl ⟨resT_of (by unfold meetT; rw [ha, hb, show max a c = a by omega, show min b d = b by omega, if_pos (show (true && true) = true from rfl), if_neg (by omega)]), (by repeat (first | exact Below.refl _ _ | (refine Below.alloc ?_ (by simp <;> omega) _) | (refine Below.setCell ?_ (by simp <;> omega) _) | (refine Below.drew ?_) | (refine bel_drewN ?_ _)))⟩
      · go_enter Try.func58, Try.ntmps58
        go_wp2_with (go_at_call 51; refine (svl_any _ _ _).mono ?_; rintro e w' ⟨rfl, rfl⟩)
        go_quiet (fail)
        go_wp2
        exact bodyPost_ret (v := .tuple #[.agg #[.int .i64 a, .int .i64 b], .int .i64 0]) (by simp [results, Try.results58, go_sem]) rfl ⟨resT_of (by unfold meetT; rw [ha, hb, show max a c = a by omega, show min b d = b by omega, if_pos (show (true && true) = true from rfl), if_pos (by omega)]), (by repeat (first | exact Below.refl _ _ | (refine Below.alloc ?_ (by simp <;> omega) _) | (refine Below.setCell ?_ (by simp <;> omega) _) | (refine Below.drew ?_) | (refine bel_drewN ?_ _)))⟩
  all_goals
    go_enter Try.func58, Try.ntmps58
    go_wp2_with (go_at_call 51; refine (svl_any _ _ _).mono ?_; rintro e w' ⟨rfl, rfl⟩)
    exact bodyPost_ret (v := .tuple #[.agg #[.int .i64 0, .int .i64 0], .int .i64 1]) (by simp [results, Try.results58, go_sem]) rfl ⟨resT_of (by unfold meetT; rw [ha, hb]; rfl), (by repeat (first | exact Below.refl _ _ | (refine Below.alloc ?_ (by simp <;> omega) _) | (refine Below.setCell ?_ (by simp <;> omega) _) | (refine Below.drew ?_) | (refine bel_drewN ?_ _)))⟩

/-- the number x lies in the valid interval from a to b -/
def hnB (a b x : Int) : Bool := vldB a b && hasB a b x
theorem inB_has (a b x : Int) : inB x a b = hasB a b x := by
  unfold inB hasB
  by_cases h : a ≤ x <;> by_cases g : x ≤ b <;> simp [h, g]
theorem ihn_any (a b x : Int) (w : World) :
    Calls Try.prog 41 #[.agg #[.int .i64 a, .int .i64 b], .int .i64 x] w fun e w' => e = .returned (.bool (hnB a b x)) ∧ Below w.heap.size w w' := by
  cases ha : vldB a b
  all_goals
    go_enter Try.func41, Try.ntmps41
    go_wp2_with (first | (go_at_call 87; refine (vld_any _ _ _).mono ?_; rintro e w' ⟨rfl, rfl⟩) | (go_at_call 88; refine (has_any _ _ _ _).mono ?_; rintro e w' ⟨rfl, rfl⟩))
    go_ret
    exact ⟨ret_bool (by unfold hnB; rw [ha]; rfl), (by repeat (first | exact Below.refl _ _ | (refine Below.alloc ?_ (by simp <;> omega) _) | (refine Below.setCell ?_ (by simp <;> omega) _) | (refine Below.drew ?_) | (refine bel_drewN ?_ _)))⟩
theorem shn_any (a b x : Int) (w : World) :
    Calls Try.prog 60 #[.agg #[.int .i64 a, .int .i64 b], .int .i64 x] w fun e w' => e = .returned (.bool (hnB a b x)) ∧ Below w.heap.size w w' := by
  have HI := Lib.hid (inB_has a b x)
  cases ha : vldB a b
  all_goals
    go_enter Try.func60, Try.ntmps60
    go_wp2_with (first | (go_at_call 51; refine (svl_any _ _ _).mono ?_; rintro e w' ⟨rfl, rfl⟩) | (go_at_call 98; refine (lin_any _ _ _ _).mono ?_; rintro e w' ⟨rfl, rfl⟩))
    go_ret
    exact ⟨ret_bool (by unfold hnB; rw [ha]; first | rfl | (rw [HI.out]; rfl)), (by repeat (first | exact Below.refl _ _ | (refine Below.alloc ?_ (by simp <;> omega) _) | (refine Below.setCell ?_ (by simp <;> omega) _) | (refine Below.drew ?_) | (refine bel_drewN ?_ _)))⟩
end Go.Proofs.Ytaamfgpdfakakaa
