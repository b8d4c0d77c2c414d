/- Contracts of the common part of two intervals, of results within the values, and of a number in an interval, the program's and the model's. -/
import Derived.Test.YtkbgbhbnkffneaaIvl
import Derived.Outline
import Derived.Deep.QuietTactic
import Derived.BigQuiet
import Derived.WalkSpells
import Derived.WalkLawsBesides
namespace Go.Proofs.Ytkbgbhbnkffneaa
open Go.ChangeShapes Go.WideShapes Go.ChangeAt Go.RowKit Num
set_option linter.unusedVariables false

/-- an interval and a code, as a result -/
def resT (T : Int × Int × Int) : Value := .tuple #[.agg #[.int .i64 T.1, .int .i64 T.2.1], .int .i64 T.2.2]
theorem resT_of {T : Int × Int × Int} {l h c : Int} (e : T = (l, h, c)) : Ending.returned (.tuple #[.agg #[.int .i64 l, .int .i64 h], .int .i64 c]) = .returned (.tuple #[.agg #[.int .i64 T.1, .int .i64 T.2.1], .int .i64 T.2.2]) := by rw [e]

/-- the interval from l to h, if both bounds are values -/
def within (l h : Int) : Int × Int × Int := if valB l && valB h then (l, h, 0) else (0, 0, 2)
theorem wvs_any (a b : Int) (w : World) :
    Calls Try.prog 77 #[.agg #[.int .i64 a, .int .i64 b]] w fun e w' => e = .returned (.tuple #[.agg #[.int .i64 (within a b).1, .int .i64 (within a b).2.1], .int .i64 (within a b).2.2]) ∧ Below w.heap.size w w' := by
  cases ha : valB a <;> cases hb : valB b
  case true.true =>
    go_enter Try.func77, Try.ntmps77
    go_wp2_with (go_at_call 60; refine (isv_any _ _).mono ?_; rintro e w' ⟨rfl, rfl⟩)
    exact bodyPost_ret (v := .tuple #[.agg #[.int .i64 a, .int .i64 b], .int .i64 0]) (by simp [results, Try.results77, go_sem]) rfl ⟨resT_of (by unfold within; rw [ha, hb]; rfl), (by repeat (first | exact Below.refl _ _ | (refine Below.alloc ?_ (by simp <;> omega) _) | (refine Below.setCell ?_ (by simp <;> omega) _) | (refine Below.drew ?_) | (refine bel_drewN ?_ _)))⟩
  all_goals
    go_enter Try.func77, Try.ntmps77
    go_wp2_with (go_at_call 60; refine (isv_any _ _).mono ?_; rintro e w' ⟨rfl, rfl⟩)
    exact bodyPost_ret (v := .tuple #[.agg #[.int .i64 0, .int .i64 0], .int .i64 2]) (by simp [results, Try.results77, go_sem]) rfl ⟨resT_of (by unfold within; rw [ha, hb]; rfl), (by repeat (first | exact Below.refl _ _ | (refine Below.alloc ?_ (by simp <;> omega) _) | (refine Below.setCell ?_ (by simp <;> omega) _) | (refine Below.drew ?_) | (refine bel_drewN ?_ _)))⟩

theorem lre_any (a b : Int) (w : World) :
    Calls Try.prog 78 #[.int .i64 a, .int .i64 b] w fun e w' => e = .returned (.tuple #[.agg #[.int .i64 (within a b).1, .int .i64 (within a b).2.1], .int .i64 (within a b).2.2]) ∧ Below w.heap.size w w' := by
  cases ha : valB a <;> cases hb : valB b
  case true.true =>
    go_enter Try.func78, Try.ntmps78
    go_wp2_with (go_at_call 62; refine (isl_any _ _).mono ?_; rintro e w' ⟨rfl, rfl⟩)
    exact bodyPost_ret (v := .tuple #[.agg #[.int .i64 a, .int .i64 b], .int .i64 0]) (by simp [results, Try.results78, go_sem]) rfl ⟨resT_of (by unfold within; rw [ha, hb]; rfl), (by repeat (first | exact Below.refl _ _ | (refine Below.alloc ?_ (by simp <;> omega) _) | (refine Below.setCell ?_ (by simp <;> omega) _) | (refine Below.drew ?_) | (refine bel_drewN ?_ _)))⟩
  all_goals
    go_enter Try.func78, Try.ntmps78
    go_wp2_with (go_at_call 62; refine (isl_any _ _).mono ?_; rintro e w' ⟨rfl, rfl⟩)
    exact bodyPost_ret (v := .tuple #[.agg #[.int .i64 0, .int .i64 0], .int .i64 2]) (by simp [results, Try.results78, go_sem]) rfl ⟨resT_of (by unfold within; rw [ha, hb]; rfl), (by repeat (first | exact Below.refl _ _ | (refine Below.alloc ?_ (by simp <;> omega) _) | (refine Below.setCell ?_ (by simp <;> omega) _) | (refine Below.drew ?_) | (refine bel_drewN ?_ _)))⟩

/-- the common part -/
def meetT (a b c d : Int) : Int × Int × Int := if vldB a b && vldB c d then (if max a c ≤ min b d then (max a c, min b d, 0) else (0, 0, 4)) else (0, 0, 1)

set_option maxHeartbeats 2000000 in
theorem imt_any (a b c d : Int) (w : World) :
    Calls Try.prog 22 #[.agg #[.int .i64 a, .int .i64 b], .agg #[.int .i64 c, .int .i64 d]] w fun e w' => e = .returned (.tuple #[.agg #[.int .i64 (meetT a b c d).1, .int .i64 (meetT a b c d).2.1], .int .i64 (meetT a b c d).2.2]) ∧ Below w.heap.size w w' := by
  cases ha : vldB a b <;> cases hb : vldB c d
  case true.true =>
    by_cases h1 : a < c <;> by_cases h2 : d < b
    · by_cases h3 : d < c
      · go_enter Try.func22, Try.ntmps22
        go_wp2_with (go_at_call 65; refine (vld_any _ _ _).mono ?_; rintro e w' ⟨rfl, rfl⟩)
        exact bodyPost_ret (v := .tuple #[.agg #[.int .i64 0, .int .i64 0], .int .i64 4]) (by simp [results, Try.results22, go_sem]) rfl ⟨resT_of (by unfold meetT; rw [ha, hb, show max a c = c by omega, show min b d = d by omega, if_pos (show (true && true) = true from rfl), if_neg (by omega)]), (by repeat (first | exact Below.refl _ _ | (refine Below.alloc ?_ (by simp <;> omega) _) | (refine Below.setCell ?_ (by simp <;> omega) _) | (refine Below.drew ?_) | (refine bel_drewN ?_ _)))⟩
      · go_enter Try.func22, Try.ntmps22
        go_wp2_with (go_at_call 65; refine (vld_any _ _ _).mono ?_; rintro e w' ⟨rfl, rfl⟩)
        exact bodyPost_ret (v := .tuple #[.agg #[.int .i64 c, .int .i64 d], .int .i64 0]) (by simp [results, Try.results22, go_sem]) rfl ⟨resT_of (by unfold meetT; rw [ha, hb, show max a c = c by omega, show min b d = d by omega, if_pos (show (true && true) = true from rfl), if_pos (by omega)]), (by repeat (first | exact Below.refl _ _ | (refine Below.alloc ?_ (by simp <;> omega) _) | (refine Below.setCell ?_ (by simp <;> omega) _) | (refine Below.drew ?_) | (refine bel_drewN ?_ _)))⟩
    · by_cases h3 : b < c
      · go_enter Try.func22, Try.ntmps22
        go_wp2_with (go_at_call 65; refine (vld_any _ _ _).mono ?_; rintro e w' ⟨rfl, rfl⟩)
        exact bodyPost_ret (v := .tuple #[.agg #[.int .i64 0, .int .i64 0], .int .i64 4]) (by simp [results, Try.results22, go_sem]) rfl ⟨resT_of (by unfold meetT; rw [ha, hb, show max a c = c by omega, show min b d = b by omega, if_pos (show (true && true) = true from rfl), if_neg (by omega)]), (by repeat (first | exact Below.refl _ _ | (refine Below.alloc ?_ (by simp <;> omega) _) | (refine Below.setCell ?_ (by simp <;> omega) _) | (refine Below.drew ?_) | (refine bel_drewN ?_ _)))⟩
      · go_enter Try.func22, Try.ntmps22
        go_wp2_with (go_at_call 65; refine (vld_any _ _ _).mono ?_; rintro e w' ⟨rfl, rfl⟩)
        exact bodyPost_ret (v := .tuple #[.agg #[.int .i64 c, .int .i64 b], .int .i64 0]) (by simp [results, Try.results22, go_sem]) rfl ⟨resT_of (by unfold meetT; rw [ha, hb, show max a c = c by omega, show min b d = b by omega, if_pos (show (true && true) = true from rfl), if_pos (by omega)]), (by repeat (first | exact Below.refl _ _ | (refine Below.alloc ?_ (by simp <;> omega) _) | (refine Below.setCell ?_ (by simp <;> omega) _) | (refine Below.drew ?_) | (refine bel_drewN ?_ _)))⟩
    · by_cases h3 : d < a
      · go_enter Try.func22, Try.ntmps22
        go_wp2_with (go_at_call 65; refine (vld_any _ _ _).mono ?_; rintro e w' ⟨rfl, rfl⟩)
        exact bodyPost_ret (v := .tuple #[.agg #[.int .i64 0, .int .i64 0], .int .i64 4]) (by simp [results, Try.results22, go_sem]) rfl ⟨resT_of (by unfold meetT; rw [ha, hb, show max a c = a by omega, show min b d = d by omega, if_pos (show (true && true) = true from rfl), if_neg (by omega)]), (by repeat (first | exact Below.refl _ _ | (refine Below.alloc ?_ (by simp <;> omega) _) | (refine Below.setCell ?_ (by simp <;> omega) _) | (refine Below.drew ?_) | (refine bel_drewN ?_ _)))⟩
      · go_enter Try.func22, Try.ntmps22
        go_wp2_with (go_at_call 65; refine (vld_any _ _ _).mono ?_; rintro e w' ⟨rfl, rfl⟩)
        exact bodyPost_ret (v := .tuple #[.agg #[.int .i64 a, .int .i64 d], .int .i64 0]) (by simp [results, Try.results22, go_sem]) rfl ⟨resT_of (by unfold meetT; rw [ha, hb, show max a c = a by omega, show min b d = d by omega, if_pos (show (true && true) = true from rfl), if_pos (by omega)]), (by repeat (first | exact Below.refl _ _ | (refine Below.alloc ?_ (by simp <;> omega) _) | (refine Below.setCell ?_ (by simp <;> omega) _) | (refine Below.drew ?_) | (refine bel_drewN ?_ _)))⟩
    · by_cases h3 : b < a
      · go_enter Try.func22, Try.ntmps22
        go_wp2_with (go_at_call 65; refine (vld_any _ _ _).mono ?_; rintro e w' ⟨rfl, rfl⟩)
        exact bodyPost_ret (v := .tuple #[.agg #[.int .i64 0, .int .i64 0], .int .i64 4]) (by simp [results, Try.results22, go_sem]) rfl ⟨resT_of (by unfold meetT; rw [ha, hb, show max a c = a by omega, show min b d = b by omega, if_pos (show (true && true) = true from rfl), if_neg (by omega)]), (by repeat (first | exact Below.refl _ _ | (refine Below.alloc ?_ (by simp <;> omega) _) | (refine Below.setCell ?_ (by simp <;> omega) _) | (refine Below.drew ?_) | (refine bel_drewN ?_ _)))⟩
      · go_enter Try.func22, Try.ntmps22
        go_wp2_with (go_at_call 65; refine (vld_any _ _ _).mono ?_; rintro e w' ⟨rfl, rfl⟩)
        exact bodyPost_ret (v := .tuple #[.agg #[.int .i64 a, .int .i64 b], .int .i64 0]) (by simp [results, Try.results22, go_sem]) rfl ⟨resT_of (by unfold meetT; rw [ha, hb, show max a c = a by omega, show min b d = b by omega, if_pos (show (true && true) = true from rfl), if_pos (by omega)]), (by repeat (first | exact Below.refl _ _ | (refine Below.alloc ?_ (by simp <;> omega) _) | (refine Below.setCell ?_ (by simp <;> omega) _) | (refine Below.drew ?_) | (refine bel_drewN ?_ _)))⟩
  all_goals
    go_enter Try.func22, Try.ntmps22
    go_wp2_with (go_at_call 65; refine (vld_any _ _ _).mono ?_; rintro e w' ⟨rfl, rfl⟩)
    exact bodyPost_ret (v := .tuple #[.agg #[.int .i64 0, .int .i64 0], .int .i64 1]) (by simp [results, Try.results22, go_sem]) rfl ⟨resT_of (by unfold meetT; rw [ha, hb]; rfl), (by repeat (first | exact Below.refl _ _ | (refine Below.alloc ?_ (by simp <;> omega) _) | (refine Below.setCell ?_ (by simp <;> omega) _) | (refine Below.drew ?_) | (refine bel_drewN ?_ _)))⟩

set_option maxHeartbeats 2000000 in
theorem smt_any (a b c d : Int) (w : World) :
    Calls Try.prog 23 #[.agg #[.int .i64 a, .int .i64 b], .agg #[.int .i64 c, .int .i64 d]] w fun e w' => e = .returned (.tuple #[.agg #[.int .i64 (meetT a b c d).1, .int .i64 (meetT a b c d).2.1], .int .i64 (meetT a b c d).2.2]) ∧ Below w.heap.size w w' := by
  cases ha : vldB a b <;> cases hb : vldB c d
  case true.true =>
    by_cases h1 : a < c <;> by_cases h2 : d < b
    · by_cases h3 : d < c
      · go_enter Try.func23, Try.ntmps23
        go_wp2_with (go_at_call 28; refine (svl_any _ _ _).mono ?_; rintro e w' ⟨rfl, rfl⟩)
        go_quiet (fail)
        go_wp2
        exact bodyPost_ret (v := .tuple #[.agg #[.int .i64 0, .int .i64 0], .int .i64 4]) (by simp [results, Try.results23, go_sem]) rfl ⟨resT_of (by unfold meetT; rw [ha, hb, show max a c = c by omega, show min b d = d by omega, if_pos (show (true && true) = true from rfl), if_neg (by omega)]), (by repeat (first | exact Below.refl _ _ | (refine Below.alloc ?_ (by simp <;> omega) _) | (refine Below.setCell ?_ (by simp <;> omega) _) | (refine Below.drew ?_) | (refine bel_drewN ?_ _)))⟩
      · go_enter Try.func23, Try.ntmps23
        go_wp2_with (go_at_call 28; refine (svl_any _ _ _).mono ?_; rintro e w' ⟨rfl, rfl⟩)
        go_quiet (fail)
        go_wp2
        exact bodyPost_ret (v := .tuple #[.agg #[.int .i64 c, .int .i64 d], .int .i64 0]) (by simp [results, Try.results23, go_sem]) rfl ⟨resT_of (by unfold meetT; rw [ha, hb, show max a c = c by omega, show min b d = d by omega, if_pos (show (true && true) = true from rfl), if_pos (by omega)]), (by repeat (first | exact Below.refl _ _ | (refine Below.alloc ?_ (by simp <;> omega) _) | (refine Below.setCell ?_ (by simp <;> omega) _) | (refine Below.drew ?_) | (refine bel_drewN ?_ _)))⟩
    · by_cases h3 : b < c
      · go_enter Try.func23, Try.ntmps23
        go_wp2_with (go_at_call 28; refine (svl_any _ _ _).mono ?_; rintro e w' ⟨rfl, rfl⟩)
        go_quiet (fail)
        go_wp2
        exact bodyPost_ret (v := .tuple #[.agg #[.int .i64 0, .int .i64 0], .int .i64 4]) (by simp [results, Try.results23, go_sem]) rfl ⟨resT_of (by unfold meetT; rw [ha, hb, show max a c = c by omega, show min b d = b by omega, if_pos (show (true && true) = true from rfl), if_neg (by omega)]), (by repeat (first | exact Below.refl _ _ | (refine Below.alloc ?_ (by simp <;> omega) _) | (refine Below.setCell ?_ (by simp <;> omega) _) | (refine Below.drew ?_) | (refine bel_drewN ?_ _)))⟩
      · go_enter Try.func23, Try.ntmps23
        go_wp2_with (go_at_call 28; refine (svl_any _ _ _).mono ?_; rintro e w' ⟨rfl, rfl⟩)
        go_quiet (fail)
        go_wp2
        exact bodyPost_ret (v := .tuple #[.agg #[.int .i64 c, .int .i64 b], .int .i64 0]) (by simp [results, Try.results23, go_sem]) rfl ⟨resT_of (by unfold meetT; rw [ha, hb, show max a c = c by omega, show min b d = b by omega, if_pos (show (true && true) = true from rfl), if_pos (by omega)]), (by repeat (first | exact Below.refl _ _ | (refine Below.alloc ?_ (by simp <;> omega) _) | (refine Below.setCell ?_ (by simp <;> omega) _) | (refine Below.drew ?_) | (refine bel_drewN ?_ _)))⟩
    · by_cases h3 : d < a
      · go_enter Try.func23, Try.ntmps23
        go_wp2_with (go_at_call 28; refine (svl_any _ _ _).mono ?_; rintro e w' ⟨rfl, rfl⟩)
        go_quiet (fail)
        go_wp2
        exact bodyPost_ret (v := .tuple #[.agg #[.int .i64 0, .int .i64 0], .int .i64 4]) (by simp [results, Try.results23, go_sem]) rfl ⟨resT_of (by unfold meetT; rw [ha, hb, show max a c = a by omega, show min b d = d by omega, if_pos (show (true && true) = true from rfl), if_neg (by omega)]), (by repeat (first | exact Below.refl _ _ | (refine Below.alloc ?_ (by simp <;> omega) _) | (refine Below.setCell ?_ (by simp <;> omega) _) | (refine Below.drew ?_) | (refine bel_drewN ?_ _)))⟩
      · go_enter Try.func23, Try.ntmps23
        go_wp2_with (go_at_call 28; refine (svl_any _ _ _).mono ?_; rintro e w' ⟨rfl, rfl⟩)
        go_quiet (fail)
        go_wp2
        exact bodyPost_ret (v := .tuple #[.agg #[.int .i64 a, .int .i64 d], .int .i64 0]) (by simp [results, Try.results23, go_sem]) rfl ⟨resT_of (by unfold meetT; rw [ha, hb, show max a c = a by omega, show min b d = d by omega, if_pos (show (true && true) = true from rfl), if_pos (by omega)]), (by repeat (first | exact Below.refl _ _ | (refine Below.alloc ?_ (by simp <;> omega) _) | (refine Below.setCell ?_ (by simp <;> omega) _) | (refine Below.drew ?_) | (refine bel_drewN ?_ _)))⟩
    · by_cases h3 : b < a
      · go_enter Try.func23, Try.ntmps23
        go_wp2_with (go_at_call 28; refine (svl_any _ _ _).mono ?_; rintro e w' ⟨rfl, rfl⟩)
        go_quiet (fail)
        go_wp2
        exact bodyPost_ret (v := .tuple #[.agg #[.int .i64 0, .int .i64 0], .int .i64 4]) (by simp [results, Try.results23, go_sem]) rfl ⟨resT_of (by unfold meetT; rw [ha, hb, show max a c = a by omega, show min b d = b by omega, if_pos (show (true && true) = true from rfl), if_neg (by omega)]), (by repeat (first | exact Below.refl _ _ | (refine Below.alloc ?_ (by simp <;> omega) _) | (refine Below.setCell ?_ (by simp <;> omega) _) | (refine Below.drew ?_) | (refine bel_drewN ?_ _)))⟩
      · go_enter Try.func23, Try.ntmps23
        go_wp2_with (go_at_call 28; refine (svl_any _ _ _).mono ?_; rintro e w' ⟨rfl, rfl⟩)
        go_quiet (fail)
        go_wp2
        exact bodyPost_ret (v := .tuple #[.agg #[.int .i64 a, .int .i64 b], .int .i64 0]) (by simp [results, Try.results23, go_sem]) rfl ⟨resT_of (by unfold meetT; rw [ha, hb, show max a c = a by omega, show min b d = b by omega, if_pos (show (true && true) = true from rfl), if_pos (by omega)]), (by repeat (first | exact Below.refl _ _ | (refine Below.alloc ?_ (by simp <;> omega) _) | (refine Below.setCell ?_ (by simp <;> omega) _) | (refine Below.drew ?_) | (refine bel_drewN ?_ _)))⟩
  all_goals
    go_enter Try.func23, Try.ntmps23
    go_wp2_with (go_at_call 28; refine (svl_any _ _ _).mono ?_; rintro e w' ⟨rfl, rfl⟩)
    exact bodyPost_ret (v := .tuple #[.agg #[.int .i64 0, .int .i64 0], .int .i64 1]) (by simp [results, Try.results23, go_sem]) rfl ⟨resT_of (by unfold meetT; rw [ha, hb]; rfl), (by repeat (first | exact Below.refl _ _ | (refine Below.alloc ?_ (by simp <;> omega) _) | (refine Below.setCell ?_ (by simp <;> omega) _) | (refine Below.drew ?_) | (refine bel_drewN ?_ _)))⟩

/-- the number x lies in the valid interval from a to b -/
def hnB (a b x : Int) : Bool := vldB a b && hasB a b x
theorem inB_has (a b x : Int) : inB x a b = hasB a b x := by
  unfold inB hasB
  by_cases h : a ≤ x <;> by_cases g : x ≤ b <;> simp [h, g]
theorem ihn_any (a b x : Int) (w : World) :
    Calls Try.prog 25 #[.agg #[.int .i64 a, .int .i64 b], .int .i64 x] w fun e w' => e = .returned (.bool (hnB a b x)) ∧ Below w.heap.size w w' := by
  cases ha : vldB a b
  all_goals
    go_enter Try.func25, Try.ntmps25
    go_wp2_with (first | (go_at_call 65; refine (vld_any _ _ _).mono ?_; rintro e w' ⟨rfl, rfl⟩) | (go_at_call 67; refine (has_any _ _ _ _).mono ?_; rintro e w' ⟨rfl, rfl⟩))
    go_ret
    exact ⟨ret_bool (by unfold hnB; rw [ha]; rfl), (by repeat (first | exact Below.refl _ _ | (refine Below.alloc ?_ (by simp <;> omega) _) | (refine Below.setCell ?_ (by simp <;> omega) _) | (refine Below.drew ?_) | (refine bel_drewN ?_ _)))⟩
theorem shn_any (a b x : Int) (w : World) :
    Calls Try.prog 26 #[.agg #[.int .i64 a, .int .i64 b], .int .i64 x] w fun e w' => e = .returned (.bool (hnB a b x)) ∧ Below w.heap.size w w' := by
  have HI := Lib.hid (inB_has a b x)
  cases ha : vldB a b
  all_goals
    go_enter Try.func26, Try.ntmps26
    go_wp2_with (first | (go_at_call 28; refine (svl_any _ _ _).mono ?_; rintro e w' ⟨rfl, rfl⟩) | (go_at_call 68; refine (lin_any _ _ _ _).mono ?_; rintro e w' ⟨rfl, rfl⟩))
    go_ret
    exact ⟨ret_bool (by unfold hnB; rw [ha]; first | rfl | (rw [HI.out]; rfl)), (by repeat (first | exact Below.refl _ _ | (refine Below.alloc ?_ (by simp <;> omega) _) | (refine Below.setCell ?_ (by simp <;> omega) _) | (refine Below.drew ?_) | (refine bel_drewN ?_ _)))⟩
end Go.Proofs.Ytkbgbhbnkffneaa
