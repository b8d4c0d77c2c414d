/- The contract of the program's IsDirection. -/
import Derived.Test.YtkjpjhklnaehbabDir
namespace Go.Proofs.Ytkjpjhklnaehbab
open Go.ChangeShapes Go.WideShapes Go.ChangeAt Go.RowKit Num
set_option linter.unusedVariables false
set_option maxRecDepth 100000 in
set_option maxHeartbeats 2000000 in
theorem idr_any (c s h : Int) (w : World) :
    Calls Try.prog 51 #[.agg #[.int .i64 c, .int .i64 s, .int .i64 h]] w fun e w' => e = .returned (.bool (dirB c s h)) ∧ Below w.heap.size w w' := by
  cases a1 : hasB 1 1000 h
  · have H : Hid (dirB c s h = false) := Lib.hid (dirB_f fun o => by have := hsB_f a1; have := o.h1; have := o.h2; omega)
    go_enter Try.func51, Try.ntmps51
    go_wp2_with (go_at_call 68; refine (lacks_any _ _ _ _).mono ?_; rintro e w' ⟨rfl, rfl⟩)
    go_ret
    exact ⟨ret_bool H.out.symm, (by repeat (first | exact Below.refl _ _ | (refine Below.alloc ?_ (by simp <;> omega) _) | (refine Below.setCell ?_ (by simp <;> omega) _) | (refine Below.drew ?_) | (refine bel_drewN ?_ _)))⟩
  cases a2 : hasB 1 1000 c
  · have H : Hid (dirB c s h = false) := Lib.hid (dirB_f fun o => by have := hsB_f a2; have := o.c1; have := o.c2; have := o.h2; omega)
    go_enter Try.func51, Try.ntmps51
    go_wp2_with (go_at_call 68; refine (lacks_any _ _ _ _).mono ?_; rintro e w' ⟨rfl, rfl⟩)
    go_ret
    exact ⟨ret_bool H.out.symm, (by repeat (first | exact Below.refl _ _ | (refine Below.alloc ?_ (by simp <;> omega) _) | (refine Below.setCell ?_ (by simp <;> omega) _) | (refine Below.drew ?_) | (refine bel_drewN ?_ _)))⟩
  cases a3 : hasB (-1000) 1000 s
  · have H : Hid (dirB c s h = false) := Lib.hid (dirB_f fun o => by have := hsB_f a3; have := o.s1; have := o.s2; have := o.h2; omega)
    go_enter Try.func51, Try.ntmps51
    go_wp2_with (go_at_call 68; refine (lacks_any _ _ _ _).mono ?_; rintro e w' ⟨rfl, rfl⟩)
    go_ret
    exact ⟨ret_bool H.out.symm, (by repeat (first | exact Below.refl _ _ | (refine Below.alloc ?_ (by simp <;> omega) _) | (refine Below.setCell ?_ (by simp <;> omega) _) | (refine Below.drew ?_) | (refine bel_drewN ?_ _)))⟩
  cases a4 : (s == 0)
  rotate_left
  · have H : Hid (dirB c s h = false) := Lib.hid (dirB_f fun o => by have := o.s0; simp at a4; omega)
    go_enter Try.func51, Try.ntmps51
    go_wp2_with (go_at_call 68; refine (lacks_any _ _ _ _).mono ?_; rintro e w' ⟨rfl, rfl⟩)
    go_ret
    exact ⟨ret_bool H.out.symm, (by repeat (first | exact Below.refl _ _ | (refine Below.alloc ?_ (by simp <;> omega) _) | (refine Below.setCell ?_ (by simp <;> omega) _) | (refine Below.drew ?_) | (refine bel_drewN ?_ _)))⟩
  have b1 := hsB_t a1
  have b2 := hsB_t a2
  have b3 := hsB_t a3
  have b4 : ¬ s = 0 := by simpa using a4
  have e1 : IntKind.wrap .i64 (c * c) = c * c := wr_mul (A := 1000) (B := 1000) (by omega) (by omega) (by omega) (by omega) (by omega) (by omega)
  have e2 : IntKind.wrap .i64 (s * s) = s * s := wr_mul (A := 1000) (B := 1000) (by omega) (by omega) (by omega) (by omega) (by omega) (by omega)
  have e3 : IntKind.wrap .i64 (h * h) = h * h := wr_mul (A := 1000) (B := 1000) (by omega) (by omega) (by omega) (by omega) (by omega) (by omega)
  have q1 := mul_abs (a := c) (n := c) (A := 1000) (N := 1000) (by omega) (by omega)
  have q2 := mul_abs (a := s) (n := s) (A := 1000) (N := 1000) (by omega) (by omega)
  have e4 : IntKind.wrap .i64 (c * c + s * s) = c * c + s * s := IntWalk.i64_in _ (by omega)
  clear q1 q2
  cases a5 : (c * c + s * s != h * h)
  rotate_left
  · have H : Hid (dirB c s h = false) := Lib.hid (dirB_f fun o => by have := o.py; simp at a5; omega)
    go_enter Try.func51, Try.ntmps51
    go_wp2_with (go_at_call 68; refine (lacks_any _ _ _ _).mono ?_; rintro e w' ⟨rfl, rfl⟩)
    go_ret
    exact ⟨ret_bool H.out.symm, (by repeat (first | exact Below.refl _ _ | (refine Below.alloc ?_ (by simp <;> omega) _) | (refine Below.setCell ?_ (by simp <;> omega) _) | (refine Below.drew ?_) | (refine bel_drewN ?_ _)))⟩
  have b5 : c * c + s * s = h * h := by simpa using a5
  obtain ⟨g, hg⟩ : ∃ g, g3 c s h = g := ⟨_, rfl⟩
  have g0 : 0 < g := hg ▸ g3_pos (by omega)
  have l1 := py_le (by omega) (by omega) b5
  have H : Hid (dirB c s h = (g == 1)) := Lib.hid (by
    cases a6 : (g == 1)
    · exact dirB_f fun o => by have := o.gg; simp at a6; omega
    · exact DirOk.b ⟨by omega, by omega, by omega, by omega, by omega, by omega, b4, b5, by simp at a6; omega⟩)
  have K : Hid (∀ w : World, Calls Try.prog 69 #[.agg #[.int .i64 c, .int .i64 s, .int .i64 h]] w fun e w' => e = .returned (.agg #[.int .i64 (lw g c), .int .i64 (lw g s), .int .i64 (lw g h)]) ∧ Below w.heap.size w w') := Lib.hid (fun w => ilt_any c s h (by omega) (by omega) (by omega) (by omega) (by omega) (by omega) g hg w)
  cases a6 : (g == 1)
  · have HF : Hid (dirB c s h = false) := Lib.hid (H.out.trans a6)
    obtain ⟨x, hx⟩ : ∃ x, lw g c = x := ⟨_, rfl⟩
    obtain ⟨y, hy⟩ : ∃ x, lw g s = x := ⟨_, rfl⟩
    obtain ⟨z, hz⟩ : ∃ x, lw g h = x := ⟨_, rfl⟩
    have q1 : (c == x) = false := by
      have d1 := g3_1 c s h
      rw [hg] at d1
      have := lw_ne (g := g) (x := c) (by omega) g0 (by simpa using a6) d1
      rw [hx] at this
      simp; omega
    rw [hx, hy, hz] at K
    clear hx hy hz hg b5 l1 H a6
    go_enter Try.func51, Try.ntmps51
    go_wp2_with (go_at_call 68; refine (lacks_any _ _ _ _).mono ?_; rintro e w' ⟨rfl, rfl⟩)
    generalize hW : World.alloc _ _ = W
    have bX : Bk W w.heap.size #[.int .i64 c, .int .i64 s, .int .i64 h] 34 := by rw [← hW]; repeat (first | exact Bk.new' rfl | refine Bk.alloc ?_ _)
    have HB : Hid (Below w.heap.size w W) := Lib.hid (by rw [← hW]; exact (by repeat (first | exact Below.refl _ _ | (refine Below.alloc ?_ (by simp <;> omega) _) | (refine Below.setCell ?_ (by simp <;> omega) _) | (refine Below.drew ?_) | (refine bel_drewN ?_ _))))
    clear hW e1 e2 e3 e4 a1 a2 a3 a4 a5 b1 b2 b3 b4 g0
    have x0 := bX.cell 0 rfl
    have x1 := bX.cell 1 rfl
    have x2 := bX.cell 2 rfl
    go_region_with (go_at_call 69; (with_reducible refine Calls.mono (K.out _) ?_); rintro e w1 ⟨rfl, hb⟩; have d0 := kc1 (show W.drew.cell? _ = _ from x0) hb; have d1 := kc1 (show W.drew.cell? _ = _ from x1) hb; have d2 := kc1 (show W.drew.cell? _ = _ from x2) hb)
    all_goals
      go_wp2
      go_ret
      exact ⟨ret_bool HF.out.symm, bel_end HB.out (bel_end (Below.refl _ _).drew hb)⟩
  · simp at a6
    subst a6
    have HF : Hid (dirB c s h = true) := Lib.hid (H.out.trans rfl)
    rw [lw_1, lw_1, lw_1] at K
    clear hg b5 l1 H
    go_enter Try.func51, Try.ntmps51
    go_wp2_with (go_at_call 68; refine (lacks_any _ _ _ _).mono ?_; rintro e w' ⟨rfl, rfl⟩)
    generalize hW : World.alloc _ _ = W
    have bX : Bk W w.heap.size #[.int .i64 c, .int .i64 s, .int .i64 h] 34 := by rw [← hW]; repeat (first | exact Bk.new' rfl | refine Bk.alloc ?_ _)
    have HB : Hid (Below w.heap.size w W) := Lib.hid (by rw [← hW]; exact (by repeat (first | exact Below.refl _ _ | (refine Below.alloc ?_ (by simp <;> omega) _) | (refine Below.setCell ?_ (by simp <;> omega) _) | (refine Below.drew ?_) | (refine bel_drewN ?_ _))))
    clear hW e1 e2 e3 e4 a1 a2 a3 a4 a5 b1 b2 b3 b4 g0
    have x0 := bX.cell 0 rfl
    have x1 := bX.cell 1 rfl
    have x2 := bX.cell 2 rfl
    go_region_with (go_at_call 69; (with_reducible refine Calls.mono (K.out _) ?_); rintro e w1 ⟨rfl, hb⟩; have d0 := kc1 (show W.drew.cell? _ = _ from x0) hb; have d1 := kc1 (show W.drew.cell? _ = _ from x1) hb; have d2 := kc1 (show W.drew.cell? _ = _ from x2) hb)
    all_goals
      go_wp2
      go_ret
      exact ⟨ret_bool HF.out.symm, bel_end HB.out (bel_end (Below.refl _ _).drew hb)⟩
end Go.Proofs.Ytkjpjhklnaehbab
