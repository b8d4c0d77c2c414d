/- Contracts of small functions of points, the program's and the model's. -/
import Derived.Test.YtkjpjhklnaehbaaBrM
import Derived.Test.YtkjpjhklnaehbaaPuA
import Derived.LoopTactic
import Derived.Outline
import Derived.Handy
import Derived.Laws.EntriesVeiled
import Derived.Deep.QuietTactic
import Derived.BigQuiet
namespace Go.Proofs.Ytkjpjhklnaehbaa
open Go.ChangeShapes Go.WideShapes Go.ChangeAt Go.RowKit Go.Shelf Num
set_option linter.unusedVariables false
set_option linter.unusedSimpArgs false

theorem ints2p {W : World} {g : Nat} {x y : Int} (h : Bk W g #[.int .i64 x, .int .i64 y] 2) : Ints .i64 W W.heap.size (some ⟨g, 0, none⟩) [x, y] := fun _ => ⟨g, 0, rfl, h.lt, fun j hj => by
  rw [Nat.zero_add]
  match j, hj with
  | 0, _ => exact h.cell 0 rfl
  | 1, _ => exact h.cell 1 rfl⟩
theorem anyLack_pt (m x y : Int) : (!anyLack (-m) m [x, y]) = ptB m x y := by
  unfold anyLack ptB inB hasB
  rw [Bool.eq_iff_iff]
  simp
theorem anyLack_pt' (m m' x y : Int) (h : m' = -m) : (!anyLack m' m [x, y]) = ptB m x y := by subst h; exact anyLack_pt m x y

set_option maxRecDepth 100000 in
set_option maxHeartbeats 2000000 in
theorem iwi_any (w : World) (m x y : Int) (m0 : 0 ≤ m) (m1 : m ≤ 1000000) :
    Calls Try.prog 48 #[.agg #[.int .i64 x, .int .i64 y], .int .i64 m] w fun e w' => e = .returned (.bool (ptB m x y)) ∧ Below w.heap.size w w' := by
  have em : IntKind.wrap .i64 (-m) = -m := IntWalk.i64_in _ (by omega)
  go_enter Try.func48, Try.ntmps48
  go_wp2_with fail
  generalize hW : World.alloc _ _ = W
  have bV : Bk W (w.heap.size + 1) #[.int .i64 x, .int .i64 y] 2 := by rw [← hW]; repeat (first | (refine Bk.new' ?_; (simp; done)) | refine Bk.alloc ?_ _)
  have HB : Hid (Below w.heap.size w W) := Lib.hid (by rw [← hW]; exact (by repeat (first | exact Below.refl _ _ | (refine Below.alloc ?_ (by simp <;> omega) _) | (refine Below.setCell ?_ (by simp <;> omega) _) | (refine Below.drew ?_) | (refine bel_drewN ?_ _))))
  clear hW
  refine (are_any W _ _ 2 [x, y] _ m rfl (by omega) (ints2p bV)).mono ?_
  rintro e w1 ⟨rfl, hb⟩
  replace HB := Lib.hid (bel_end HB.out hb)
  clear hb
  go_wp2
  go_ret
  exact ⟨ret_bool (by first | exact anyLack_pt m x y | exact anyLack_pt' m _ x y rfl), HB.out⟩

set_option maxRecDepth 100000 in
set_option maxHeartbeats 2000000 in
theorem ipt_any (w : World) (x y : Int) :
    Calls Try.prog 52 #[.agg #[.int .i64 x, .int .i64 y]] w fun e w' => e = .returned (.bool (ptB 100000 x y)) ∧ Below w.heap.size w w' := by
  go_enter Try.func52, Try.ntmps52
  go_wp2_with fail
  generalize hW : World.alloc _ _ = W
  have HB : Hid (Below w.heap.size w W) := Lib.hid (by rw [← hW]; exact (by repeat (first | exact Below.refl _ _ | (refine Below.alloc ?_ (by simp <;> omega) _) | (refine Below.setCell ?_ (by simp <;> omega) _) | (refine Below.drew ?_) | (refine bel_drewN ?_ _))))
  clear hW
  refine (iwi_any W 100000 x y (by omega) (by omega)).mono ?_
  rintro e w1 ⟨rfl, hb⟩
  replace HB := Lib.hid (bel_end HB.out hb)
  clear hb
  go_wp2
  go_ret
  exact ⟨rfl, HB.out⟩

set_option maxRecDepth 100000 in
set_option maxHeartbeats 2000000 in
theorem ibg_any (w : World) (x y : Int) :
    Calls Try.prog 18 #[.agg #[.int .i64 x, .int .i64 y]] w fun e w' => e = .returned (.bool (brB x y)) ∧ Below w.heap.size w w' := by
  by_cases hx : x = 0
  case pos =>
    subst hx
    by_cases hy : y = 0
    case pos =>
      subst hy
      go_enter Try.func18, Try.ntmps18
      go_wp2
      go_ret
      exact ⟨ret_bool brB_z.symm, (by repeat (first | exact Below.refl _ _ | (refine Below.alloc ?_ (by simp <;> omega) _) | (refine Below.setCell ?_ (by simp <;> omega) _) | (refine Below.drew ?_) | (refine bel_drewN ?_ _)))⟩
    case neg =>
      have hy2 : (y == 0) = false := by simpa using hy
      have hz : ¬ ((0 : Int) = 0 ∧ y = 0) := fun e => hy e.2
      have HE : Hid (ptB 1000 0 y = brB 0 y) := Lib.hid (by unfold brB; rw [show ((0 : Int) == 0 && y == 0) = false by rw [Bool.eq_false_iff]; simpa using hz]; simp)
      clear hz
      go_enter Try.func18, Try.ntmps18
      go_wp2_with fail
      generalize hW : World.alloc _ _ = W
      have HB : Hid (Below w.heap.size w W) := Lib.hid (by rw [← hW]; exact (by repeat (first | exact Below.refl _ _ | (refine Below.alloc ?_ (by simp <;> omega) _) | (refine Below.setCell ?_ (by simp <;> omega) _) | (refine Below.drew ?_) | (refine bel_drewN ?_ _))))
      clear hW
      refine (iwi_any W 1000 0 y (by omega) (by omega)).mono ?_
      rintro e w1 ⟨rfl, hb⟩
      replace HB := Lib.hid (bel_end HB.out hb)
      clear hb
      go_wp2
      go_ret
      exact ⟨ret_bool HE.out, HB.out⟩
  case neg =>
    have hx2 : (x == 0) = false := by simpa using hx
    have hz : ¬ (x = 0 ∧ y = 0) := fun e => hx e.1
    have HE : Hid (ptB 1000 x y = brB x y) := Lib.hid (by unfold brB; rw [show (x == 0 && y == 0) = false by rw [Bool.eq_false_iff]; simpa using hz]; simp)
    clear hz
    go_enter Try.func18, Try.ntmps18
    go_wp2_with fail
    generalize hW : World.alloc _ _ = W
    have HB : Hid (Below w.heap.size w W) := Lib.hid (by rw [← hW]; exact (by repeat (first | exact Below.refl _ _ | (refine Below.alloc ?_ (by simp <;> omega) _) | (refine Below.setCell ?_ (by simp <;> omega) _) | (refine Below.drew ?_) | (refine bel_drewN ?_ _))))
    clear hW
    refine (iwi_any W 1000 x y (by omega) (by omega)).mono ?_
    rintro e w1 ⟨rfl, hb⟩
    replace HB := Lib.hid (bel_end HB.out hb)
    clear hb
    go_wp2
    go_ret
    exact ⟨ret_bool HE.out, HB.out⟩

set_option maxRecDepth 100000 in
set_option maxHeartbeats 2000000 in
theorem icr_any (w : World) (a b c d : Int) (p1 : -4000000000000000000 ≤ a * d) (p2 : a * d ≤ 4000000000000000000) (q1 : -4000000000000000000 ≤ b * c) (q2 : b * c ≤ 4000000000000000000) :
    Calls Try.prog 60 #[.agg #[.int .i64 a, .int .i64 b], .agg #[.int .i64 c, .int .i64 d]] w fun e w' => e = .returned (.int .i64 (crs a b c d)) ∧ Below w.heap.size w w' := by
  have e0 : IntKind.wrap .i64 (a * d) = a * d := IntWalk.i64_in _ (by omega)
  have e1 : IntKind.wrap .i64 (b * c) = b * c := IntWalk.i64_in _ (by omega)
  go_enter Try.func60, Try.ntmps60
  go_wp2
  go_ret
  exact ⟨rfl, (by repeat (first | exact Below.refl _ _ | (refine Below.alloc ?_ (by simp <;> omega) _) | (refine Below.setCell ?_ (by simp <;> omega) _) | (refine Below.drew ?_) | (refine bel_drewN ?_ _)))⟩

set_option maxRecDepth 100000 in
set_option maxHeartbeats 2000000 in
theorem isc2_any (w : World) (a b c d : Int) (p1 : -4000000000000000000 ≤ a * c) (p2 : a * c ≤ 4000000000000000000) (q1 : -4000000000000000000 ≤ b * d) (q2 : b * d ≤ 4000000000000000000) :
    Calls Try.prog 69 #[.agg #[.int .i64 a, .int .i64 b], .agg #[.int .i64 c, .int .i64 d]] w fun e w' => e = .returned (.int .i64 (dt2 a b c d)) ∧ Below w.heap.size w w' := by
  have e0 : IntKind.wrap .i64 (a * c) = a * c := IntWalk.i64_in _ (by omega)
  have e1 : IntKind.wrap .i64 (b * d) = b * d := IntWalk.i64_in _ (by omega)
  go_enter Try.func69, Try.ntmps69
  go_wp2
  go_ret
  exact ⟨rfl, (by repeat (first | exact Below.refl _ _ | (refine Below.alloc ?_ (by simp <;> omega) _) | (refine Below.setCell ?_ (by simp <;> omega) _) | (refine Below.drew ?_) | (refine bel_drewN ?_ _)))⟩

set_option maxRecDepth 100000 in
set_option maxHeartbeats 2000000 in
theorem lcr_any (w : World) (a b c d : Int) (p1 : -4000000000000000000 ≤ a * d) (p2 : a * d ≤ 4000000000000000000) (q1 : -4000000000000000000 ≤ b * c) (q2 : b * c ≤ 4000000000000000000) :
    Calls Try.prog 50 #[.agg #[.int .i64 a, .int .i64 b], .agg #[.int .i64 c, .int .i64 d]] w fun e w' => e = .returned (.int .i64 (crs a b c d)) ∧ Below w.heap.size w w' := by
  have e0 : IntKind.wrap .i64 (a * d) = a * d := IntWalk.i64_in _ (by omega)
  have e1 : IntKind.wrap .i64 (b * c) = b * c := IntWalk.i64_in _ (by omega)
  go_enter Try.func50, Try.ntmps50
  go_wp2
  go_ret
  exact ⟨rfl, (by repeat (first | exact Below.refl _ _ | (refine Below.alloc ?_ (by simp <;> omega) _) | (refine Below.setCell ?_ (by simp <;> omega) _) | (refine Below.drew ?_) | (refine bel_drewN ?_ _)))⟩

set_option maxRecDepth 100000 in
set_option maxHeartbeats 2000000 in
theorem ldt_any (w : World) (a b c d : Int) (p1 : -4000000000000000000 ≤ a * c) (p2 : a * c ≤ 4000000000000000000) (q1 : -4000000000000000000 ≤ b * d) (q2 : b * d ≤ 4000000000000000000) :
    Calls Try.prog 67 #[.agg #[.int .i64 a, .int .i64 b], .agg #[.int .i64 c, .int .i64 d]] w fun e w' => e = .returned (.int .i64 (dt2 a b c d)) ∧ Below w.heap.size w w' := by
  have e0 : IntKind.wrap .i64 (a * c) = a * c := IntWalk.i64_in _ (by omega)
  have e1 : IntKind.wrap .i64 (b * d) = b * d := IntWalk.i64_in _ (by omega)
  go_enter Try.func67, Try.ntmps67
  go_wp2
  go_ret
  exact ⟨rfl, (by repeat (first | exact Below.refl _ _ | (refine Below.alloc ?_ (by simp <;> omega) _) | (refine Below.setCell ?_ (by simp <;> omega) _) | (refine Below.drew ?_) | (refine bel_drewN ?_ _)))⟩

set_option maxRecDepth 100000 in
set_option maxHeartbeats 2000000 in
theorem imn_any (w : World) (a b c d : Int) (a1 : -1000000000 ≤ a) (a2 : a ≤ 1000000000) (b1 : -1000000000 ≤ b) (b2 : b ≤ 1000000000) (c1 : -1000000000 ≤ c) (c2 : c ≤ 1000000000) (d1 : -1000000000 ≤ d) (d2 : d ≤ 1000000000) :
    Calls Try.prog 54 #[.agg #[.int .i64 a, .int .i64 b], .agg #[.int .i64 c, .int .i64 d]] w fun e w' => e = .returned (.agg #[.int .i64 (a - c), .int .i64 (b - d)]) ∧ Below w.heap.size w w' := by
  go_enter Try.func54, Try.ntmps54
  go_wp2
  exact bodyPost_ret (v := .agg #[.int .i64 (a - c), .int .i64 (b - d)]) (by simp [results, Try.results54, go_sem]) rfl ⟨rfl, (by repeat (first | exact Below.refl _ _ | (refine Below.alloc ?_ (by simp <;> omega) _) | (refine Below.setCell ?_ (by simp <;> omega) _) | (refine Below.drew ?_) | (refine bel_drewN ?_ _)))⟩

set_option maxRecDepth 100000 in
set_option maxHeartbeats 2000000 in
theorem lle_any (w : World) (a b c d : Int) (a1 : -1000000000 ≤ a) (a2 : a ≤ 1000000000) (b1 : -1000000000 ≤ b) (b2 : b ≤ 1000000000) (c1 : -1000000000 ≤ c) (c2 : c ≤ 1000000000) (d1 : -1000000000 ≤ d) (d2 : d ≤ 1000000000) :
    Calls Try.prog 51 #[.agg #[.int .i64 a, .int .i64 b], .agg #[.int .i64 c, .int .i64 d]] w fun e w' => e = .returned (.agg #[.int .i64 (a - c), .int .i64 (b - d)]) ∧ Below w.heap.size w w' := by
  go_enter Try.func51, Try.ntmps51
  go_wp2
  exact bodyPost_ret (v := .agg #[.int .i64 (a - c), .int .i64 (b - d)]) (by simp [results, Try.results51, go_sem]) rfl ⟨rfl, (by repeat (first | exact Below.refl _ _ | (refine Below.alloc ?_ (by simp <;> omega) _) | (refine Below.setCell ?_ (by simp <;> omega) _) | (refine Below.drew ?_) | (refine bel_drewN ?_ _)))⟩

set_option maxRecDepth 100000 in
set_option maxHeartbeats 2000000 in
theorem lsg_any (w : World) (n : Int) :
    Calls Try.prog 49 #[.int .i64 n] w fun e w' => e = .returned (.int .i64 (sg1 n)) ∧ Below w.heap.size w w' := by
  by_cases h1 : 0 < n
  · go_enter Try.func49, Try.ntmps49
    go_wp2
    go_ret
    exact ⟨ret_int (sg1_pos h1).symm, Below.refl _ _⟩
  · by_cases h2 : n < 0
    · go_enter Try.func49, Try.ntmps49
      go_wp2
      go_ret
      exact ⟨ret_int (sg1_lt h2).symm, Below.refl _ _⟩
    · go_enter Try.func49, Try.ntmps49
      go_wp2
      go_ret
      exact ⟨ret_int (sg1_zero (by omega)).symm, Below.refl _ _⟩

set_option maxRecDepth 100000 in
set_option maxHeartbeats 2000000 in
theorem ihf_any (w : World) (x y : Int) :
    Calls Try.prog 57 #[.agg #[.int .i64 x, .int .i64 y]] w fun e w' => e = .returned (.int .i64 (hlf x y)) ∧ Below w.heap.size w w' := by
  by_cases h1 : x < 0
  · go_enter Try.func57, Try.ntmps57
    go_wp2
    go_ret
    exact ⟨ret_int (by unfold hlf; rw [if_pos h1]), (by repeat (first | exact Below.refl _ _ | (refine Below.alloc ?_ (by simp <;> omega) _) | (refine Below.setCell ?_ (by simp <;> omega) _) | (refine Below.drew ?_) | (refine bel_drewN ?_ _)))⟩
  · by_cases h2 : x = 0
    · subst h2
      by_cases h3 : y < 0
      · go_enter Try.func57, Try.ntmps57
        go_wp2
        go_ret
        exact ⟨ret_int (by unfold hlf; rw [if_neg (by omega), if_pos ⟨rfl, h3⟩]), (by repeat (first | exact Below.refl _ _ | (refine Below.alloc ?_ (by simp <;> omega) _) | (refine Below.setCell ?_ (by simp <;> omega) _) | (refine Below.drew ?_) | (refine bel_drewN ?_ _)))⟩
      · go_enter Try.func57, Try.ntmps57
        go_wp2
        go_ret
        exact ⟨ret_int (by unfold hlf; rw [if_neg (by omega), if_neg (by omega)]), (by repeat (first | exact Below.refl _ _ | (refine Below.alloc ?_ (by simp <;> omega) _) | (refine Below.setCell ?_ (by simp <;> omega) _) | (refine Below.drew ?_) | (refine bel_drewN ?_ _)))⟩
    · have h22 : (x == 0) = false := by simpa using h2
      go_enter Try.func57, Try.ntmps57
      go_wp2
      go_ret
      exact ⟨ret_int (by unfold hlf; rw [if_neg (by omega), if_neg (by omega)]), (by repeat (first | exact Below.refl _ _ | (refine Below.alloc ?_ (by simp <;> omega) _) | (refine Below.setCell ?_ (by simp <;> omega) _) | (refine Below.drew ?_) | (refine bel_drewN ?_ _)))⟩

set_option maxRecDepth 100000 in
set_option maxHeartbeats 2000000 in
theorem lhf_any (w : World) (x y : Int) (hz : ¬ (x = 0 ∧ y = 0)) :
    Calls Try.prog 55 #[.agg #[.int .i64 x, .int .i64 y]] w fun e w' => e = .returned (.int .i64 (hlf x y)) ∧ Below w.heap.size w w' := by
  by_cases h1 : 0 < x
  · go_enter Try.func55, Try.ntmps55
    go_wp2
    go_ret
    exact ⟨ret_int (by unfold hlf; rw [if_neg (by omega), if_neg (by omega)]), (by repeat (first | exact Below.refl _ _ | (refine Below.alloc ?_ (by simp <;> omega) _) | (refine Below.setCell ?_ (by simp <;> omega) _) | (refine Below.drew ?_) | (refine bel_drewN ?_ _)))⟩
  · by_cases h2 : x = 0
    · subst h2
      by_cases h3 : 0 < y
      · go_enter Try.func55, Try.ntmps55
        go_wp2
        go_ret
        exact ⟨ret_int (by unfold hlf; rw [if_neg (by omega), if_neg (by omega)]), (by repeat (first | exact Below.refl _ _ | (refine Below.alloc ?_ (by simp <;> omega) _) | (refine Below.setCell ?_ (by simp <;> omega) _) | (refine Below.drew ?_) | (refine bel_drewN ?_ _)))⟩
      · have H4 : Hid (y < 0) := Lib.hid (by omega)
        go_enter Try.func55, Try.ntmps55
        go_wp2
        go_ret
        exact ⟨ret_int (by unfold hlf; rw [if_neg (by omega), if_pos ⟨rfl, H4.out⟩]), (by repeat (first | exact Below.refl _ _ | (refine Below.alloc ?_ (by simp <;> omega) _) | (refine Below.setCell ?_ (by simp <;> omega) _) | (refine Below.drew ?_) | (refine bel_drewN ?_ _)))⟩
    · have h22 : (x == 0) = false := by simpa using h2
      go_enter Try.func55, Try.ntmps55
      go_wp2
      go_ret
      exact ⟨ret_int (by unfold hlf; rw [if_pos (show x < 0 by omega)]), (by repeat (first | exact Below.refl _ _ | (refine Below.alloc ?_ (by simp <;> omega) _) | (refine Below.setCell ?_ (by simp <;> omega) _) | (refine Below.drew ?_) | (refine bel_drewN ?_ _)))⟩

set_option maxRecDepth 100000 in
set_option maxHeartbeats 2000000 in
theorem lpt_any (w : World) (m x y : Int) (m0 : 0 ≤ m) (m1 : m ≤ 1000000) :
    Calls Try.prog 47 #[.agg #[.int .i64 x, .int .i64 y], .int .i64 m] w fun e w' => e = .returned (.bool (ptB m x y)) ∧ Below w.heap.size w w' := by
  have em : IntKind.wrap .i64 (-m) = -m := IntWalk.i64_in _ (by omega)
  cases h1 : inB x (-m) m <;> cases h2 : inB y (-m) m
  all_goals
    have HE : Hid (ptB m x y = _) := Lib.hid (by unfold ptB; rw [h1, h2])
    go_enter Try.func47, Try.ntmps47
    go_wp2_with (go_at_call 63; refine (lin_any _ _ _ _).mono ?_; (first | rw [h1] | rw [h2]); rintro e w' ⟨rfl, rfl⟩)
    go_ret
    exact ⟨ret_bool (by rw [HE.out]; rfl), (by repeat (first | exact Below.refl _ _ | (refine Below.alloc ?_ (by simp <;> omega) _) | (refine Below.setCell ?_ (by simp <;> omega) _) | (refine Below.drew ?_) | (refine bel_drewN ?_ _)))⟩

set_option maxRecDepth 100000 in
set_option maxHeartbeats 2000000 in
theorem sbg_any (w : World) (x y : Int) :
    Calls Try.prog 16 #[.agg #[.int .i64 x, .int .i64 y]] w fun e w' => e = .returned (.bool (brB x y)) ∧ Below w.heap.size w w' := by
  cases hp : ptB 1000 x y
  case false =>
    have HE : Hid (false = brB x y) := Lib.hid (by unfold brB; rw [hp]; rfl)
    go_enter Try.func16, Try.ntmps16
    go_wp2_with fail
    generalize hW : World.alloc _ _ = W
    have bX : Bk W (w.heap.size) #[.int .i64 x, .int .i64 y] 25 := by rw [← hW]; repeat (first | (refine Bk.new' ?_; (simp; done)) | refine Bk.alloc ?_ _)
    have HB : Hid (Below w.heap.size w W) := Lib.hid (by rw [← hW]; exact (by repeat (first | exact Below.refl _ _ | (refine Below.alloc ?_ (by simp <;> omega) _) | (refine Below.setCell ?_ (by simp <;> omega) _) | (refine Below.drew ?_) | (refine bel_drewN ?_ _))))
    clear hW
    refine (lpt_any W 1000 x y (by omega) (by omega)).mono ?_
    rw [hp]
    rintro e w1 ⟨rfl, hb⟩
    replace bX := bX.on hb
    replace HB := Lib.hid (bel_end HB.out hb)
    clear hb
    have bX_0 := bX.cell 0 rfl
    have bX_1 := bX.cell 1 rfl
    have bX_l := bX.lt
    go_wp2
    go_ret
    exact ⟨ret_bool HE.out, HB.out⟩
  case true =>
    by_cases hx : x = 0
    case pos =>
      subst hx
      by_cases hy : y = 0
      case pos =>
        subst hy
        have HE : Hid (false = brB 0 0) := Lib.hid brB_z.symm
        go_enter Try.func16, Try.ntmps16
        go_wp2_with fail
        generalize hW : World.alloc _ _ = W
        have bX : Bk W (w.heap.size) #[.int .i64 0, .int .i64 0] 25 := by rw [← hW]; repeat (first | (refine Bk.new' ?_; (simp; done)) | refine Bk.alloc ?_ _)
        have HB : Hid (Below w.heap.size w W) := Lib.hid (by rw [← hW]; exact (by repeat (first | exact Below.refl _ _ | (refine Below.alloc ?_ (by simp <;> omega) _) | (refine Below.setCell ?_ (by simp <;> omega) _) | (refine Below.drew ?_) | (refine bel_drewN ?_ _))))
        clear hW
        refine (lpt_any W 1000 0 0 (by omega) (by omega)).mono ?_
        rw [hp]
        rintro e w1 ⟨rfl, hb⟩
        replace bX := bX.on hb
        replace HB := Lib.hid (bel_end HB.out hb)
        clear hb
        have bX_0 := bX.cell 0 rfl
        have bX_1 := bX.cell 1 rfl
        have bX_l := bX.lt
        go_wp2
        go_ret
        exact ⟨ret_bool HE.out, HB.out⟩
      case neg =>
        have hy2 : (y == 0) = false := by simpa using hy
        have hz : ¬ ((0 : Int) = 0 ∧ y = 0) := fun e => hy e.2
        have HE : Hid (true = brB 0 y) := Lib.hid (by unfold brB; rw [hp, show ((0 : Int) == 0 && y == 0) = false by rw [Bool.eq_false_iff]; simpa using hz]; rfl)
        clear hz
        go_enter Try.func16, Try.ntmps16
        go_wp2_with fail
        generalize hW : World.alloc _ _ = W
        have bX : Bk W (w.heap.size) #[.int .i64 0, .int .i64 y] 25 := by rw [← hW]; repeat (first | (refine Bk.new' ?_; (simp; done)) | refine Bk.alloc ?_ _)
        have HB : Hid (Below w.heap.size w W) := Lib.hid (by rw [← hW]; exact (by repeat (first | exact Below.refl _ _ | (refine Below.alloc ?_ (by simp <;> omega) _) | (refine Below.setCell ?_ (by simp <;> omega) _) | (refine Below.drew ?_) | (refine bel_drewN ?_ _))))
        clear hW
        refine (lpt_any W 1000 0 y (by omega) (by omega)).mono ?_
        rw [hp]
        rintro e w1 ⟨rfl, hb⟩
        replace bX := bX.on hb
        replace HB := Lib.hid (bel_end HB.out hb)
        clear hb
        have bX_0 := bX.cell 0 rfl
        have bX_1 := bX.cell 1 rfl
        have bX_l := bX.lt
        go_wp2
        go_ret
        exact ⟨ret_bool HE.out, HB.out⟩
    case neg =>
      have hx2 : (x == 0) = false := by simpa using hx
      have hz : ¬ (x = 0 ∧ y = 0) := fun e => hx e.1
      have HE : Hid (true = brB x y) := Lib.hid (by unfold brB; rw [hp, show (x == 0 && y == 0) = false by rw [Bool.eq_false_iff]; simpa using hz]; rfl)
      clear hz
      go_enter Try.func16, Try.ntmps16
      go_wp2_with fail
      generalize hW : World.alloc _ _ = W
      have bX : Bk W (w.heap.size) #[.int .i64 x, .int .i64 y] 25 := by rw [← hW]; repeat (first | (refine Bk.new' ?_; (simp; done)) | refine Bk.alloc ?_ _)
      have HB : Hid (Below w.heap.size w W) := Lib.hid (by rw [← hW]; exact (by repeat (first | exact Below.refl _ _ | (refine Below.alloc ?_ (by simp <;> omega) _) | (refine Below.setCell ?_ (by simp <;> omega) _) | (refine Below.drew ?_) | (refine bel_drewN ?_ _))))
      clear hW
      refine (lpt_any W 1000 x y (by omega) (by omega)).mono ?_
      rw [hp]
      rintro e w1 ⟨rfl, hb⟩
      replace bX := bX.on hb
      replace HB := Lib.hid (bel_end HB.out hb)
      clear hb
      have bX_0 := bX.cell 0 rfl
      have bX_1 := bX.cell 1 rfl
      have bX_l := bX.lt
      go_wp2
      go_ret
      exact ⟨ret_bool HE.out, HB.out⟩
end Go.Proofs.Ytkjpjhklnaehbaa
