import Derived.Test.YtgecbfbmmbfnmaaGreatMth
import Derived.Test.YtgecbfbmmbfnmaaGreatBas
import Derived.Test.YtgecbfbmmbfnmaaGreatPrs
import Derived.Deep.RegionWith
namespace Go.Proofs.YtgecbfbmmbfnmaaGreat
section
/- Contracts of directions: the program's and the model's IsDirection, MakeDirection, MirrorDirection, and their helpers. -/
open Go.ChangeShapes Go.WideShapes Go.ChangeAt Go.RowKit Num
set_option linter.unusedVariables false
theorem hsB_t {a b x : Int} (h : hasB a b x = true) : a ≤ x ∧ x ≤ b := by unfold hasB at h; simpa using h
theorem hsB_f {a b x : Int} (h : hasB a b x = false) : x < a ∨ b < x := by
  unfold hasB at h
  rw [Bool.and_eq_false_iff] at h
  rcases h with h | h
  · have := of_decide_eq_false h; omega
  · have := of_decide_eq_false h; omega
/-- the lowest terms of a number that is not too great lie within its bounds -/
theorem lw_bd (g x : Int) : -(x.natAbs : Int) ≤ lw g x ∧ lw g x ≤ x.natAbs := Num.tdiv_bd x g
/-- a number within 64 bits, multiplied -/
theorem wr_mul {a b A B : Int} (h1 : -A ≤ a) (h2 : a ≤ A) (h3 : -B ≤ b) (h4 : b ≤ B) (h5 : A ≤ 2000000000) (h6 : B ≤ 2000000000) : IntKind.wrap .i64 (a * b) = a * b := by
  refine IntWalk.i64_in _ ?_
  have := mul_abs (a := a) (n := b) (A := A.toNat) (N := B.toNat) (by omega) (by omega)
  have h7 : A.toNat * B.toNat ≤ 2000000000 * 2000000000 := Nat.mul_le_mul (by omega) (by omega)
  omega

section
variable {P : Program} {f : FuncId} {args : Array Value} {w : World} {v : Value}
/-- a callee that only draws, met in a region that only reads -/
theorem dq_call {n : Nat} (h : Calls P f args (w.drewN n) fun e w' => e = .returned v ∧ ∃ k, w' = (w.drewN n).drewN k) : Calls P f args (w.drewN n) fun e w2 => e = .returned v ∧ ∃ m, w2 = w.drewN m :=
  h.mono fun e w2 ⟨he, k, hw⟩ => ⟨he, n + k, by rw [hw, World.drewN_drewN]⟩
end

set_option maxRecDepth 100000 in
set_option maxHeartbeats 1000000 in
theorem ilt_any (c s h : Int) (c1 : -1000000000 ≤ c) (c2 : c ≤ 1000000000) (s1 : -1000000000 ≤ s) (s2 : s ≤ 1000000000) (h1 : 0 < h) (h2 : h ≤ 1000000000) (g : Int) (hg : g3 c s h = g) (w : World) :
    Calls Tryz.prog 36 #[.agg #[.int .i64 c, .int .i64 s, .int .i64 h]] w fun e w' => e = .returned (.agg #[.int .i64 (lw g c), .int .i64 (lw g s), .int .i64 (lw g h)]) ∧ Below w.heap.size w w' := by
  have g0 : 0 < g := hg ▸ g3_pos (by omega)
  have gz : ¬ g = 0 := by omega
  have gb : (g == 0) = false := by simp; omega
  have k1 : gc c s ≤ 9000000000000000000 := by
    by_cases e : s = 0
    · subst e; rw [gc_zero]; omega
    · have := gc_le (a := c) e; omega
  have k0 : 0 ≤ gc c s := Int.natCast_nonneg _
  have HG : Hid (gc (gc c s) h = g) := Lib.hid hg
  have t1 := lw_bd g c
  have t2 := lw_bd g s
  have t3 := lw_bd g h
  have i1 : -9000000000000000000 ≤ c.tdiv g := by unfold lw at t1; omega
  have i2 : c.tdiv g ≤ 9000000000000000000 := by unfold lw at t1; omega
  have i3 : -9000000000000000000 ≤ s.tdiv g := by unfold lw at t2; omega
  have i4 : s.tdiv g ≤ 9000000000000000000 := by unfold lw at t2; omega
  have i5 : -9000000000000000000 ≤ h.tdiv g := by unfold lw at t3; omega
  have i6 : h.tdiv g ≤ 9000000000000000000 := by unfold lw at t3; omega
  have y1 : IntKind.wrap .i64 (c.tdiv g) = c.tdiv g := IntWalk.i64_in _ (by omega)
  have y2 : IntKind.wrap .i64 (s.tdiv g) = s.tdiv g := IntWalk.i64_in _ (by omega)
  have y3 : IntKind.wrap .i64 (h.tdiv g) = h.tdiv g := IntWalk.i64_in _ (by omega)
  obtain ⟨k, hk⟩ : ∃ k, gc c s = k := ⟨_, rfl⟩
  rw [hk] at k0 k1
  have HK := Lib.hid hk
  replace HG : Hid (gc k h = g) := Lib.hid (by rw [← hk]; exact HG.out)
  have K1 : Hid (∀ w : World, Calls Tryz.prog 62 #[.int .i64 c, .int .i64 s] w fun e w' => e = .returned (.int .i64 k) ∧ ∃ n, w' = w.drewN n) := Lib.hid (fun w => by have := igd_any c s (by omega) (by omega) (by omega) (by omega) w; rwa [hk] at this)
  have K2 : Hid (∀ w : World, Calls Tryz.prog 62 #[.int .i64 k, .int .i64 h] w fun e w' => e = .returned (.int .i64 g) ∧ ∃ n, w' = w.drewN n) := Lib.hid (fun w => by have := igd_any k h (by omega) (by omega) (by omega) (by omega) w; rwa [HG.out] at this)
  clear hk hg t1 t2 t3 HK HG
  go_enter Tryz.func36, Tryz.ntmps36
  go_wp2_with fail
  go_quiet (first | (go_at_call 62; (with_reducible exact dq_call (K1.out _))) | (go_at_call 62; (with_reducible exact dq_call (K2.out _))) | fail)
  go_wp2
  go_region_with (fail)
  all_goals
    go_wp2
    exact bodyPost_ret (v := .agg #[.int .i64 (c.tdiv g), .int .i64 (s.tdiv g), .int .i64 (h.tdiv g)]) (by simp [results, Tryz.results36, go_sem]) rfl ⟨rfl, (by repeat (first | exact Below.refl _ _ | (refine Below.alloc ?_ (by simp <;> omega) _) | (refine Below.setCell ?_ (by simp <;> omega) _) | (refine Below.drew ?_) | (refine bel_drewN ?_ _)))⟩

theorem in_call {P : Program} {f : FuncId} {args : Array Value} {w : World} {v : Value} {n : Nat} (h : Calls P f args (w.drewN n) fun e w' => e = .returned v ∧ w.drewN n = w') : Calls P f args (w.drewN n) fun e w2 => e = .returned v ∧ ∃ m, w2 = w.drewN m :=
  h.mono fun e w2 ⟨he, hw⟩ => ⟨he, n, hw.symm⟩
end
section
/- The contract of the program's IsDirection. -/
open Go.ChangeShapes Go.WideShapes Go.ChangeAt Go.RowKit Num
set_option linter.unusedVariables false
set_option maxRecDepth 100000 in
set_option maxHeartbeats 2000000 in
theorem idr_any (c s h : Int) (w : World) :
    Calls Tryz.prog 15 #[.agg #[.int .i64 c, .int .i64 s, .int .i64 h]] w fun e w' => e = .returned (.bool (dirB c s h)) ∧ Below w.heap.size w w' := by
  cases a1 : hasB 1 1000 h
  · have H : Hid (dirB c s h = false) := Lib.hid (dirB_f fun o => by have := hsB_f a1; have := o.h1; have := o.h2; omega)
    go_enter Tryz.func15, Tryz.ntmps15
    go_wp2_with (go_at_call 35; refine (lacks_any _ _ _ _).mono ?_; rintro e w' ⟨rfl, rfl⟩)
    go_ret
    exact ⟨ret_bool H.out.symm, (by repeat (first | exact Below.refl _ _ | (refine Below.alloc ?_ (by simp <;> omega) _) | (refine Below.setCell ?_ (by simp <;> omega) _) | (refine Below.drew ?_) | (refine bel_drewN ?_ _)))⟩
  cases a2 : hasB 1 1000 c
  · have H : Hid (dirB c s h = false) := Lib.hid (dirB_f fun o => by have := hsB_f a2; have := o.c1; have := o.c2; have := o.h2; omega)
    go_enter Tryz.func15, Tryz.ntmps15
    go_wp2_with (go_at_call 35; refine (lacks_any _ _ _ _).mono ?_; rintro e w' ⟨rfl, rfl⟩)
    go_ret
    exact ⟨ret_bool H.out.symm, (by repeat (first | exact Below.refl _ _ | (refine Below.alloc ?_ (by simp <;> omega) _) | (refine Below.setCell ?_ (by simp <;> omega) _) | (refine Below.drew ?_) | (refine bel_drewN ?_ _)))⟩
  cases a3 : hasB (-1000) 1000 s
  · have H : Hid (dirB c s h = false) := Lib.hid (dirB_f fun o => by have := hsB_f a3; have := o.s1; have := o.s2; have := o.h2; omega)
    go_enter Tryz.func15, Tryz.ntmps15
    go_wp2_with (go_at_call 35; refine (lacks_any _ _ _ _).mono ?_; rintro e w' ⟨rfl, rfl⟩)
    go_ret
    exact ⟨ret_bool H.out.symm, (by repeat (first | exact Below.refl _ _ | (refine Below.alloc ?_ (by simp <;> omega) _) | (refine Below.setCell ?_ (by simp <;> omega) _) | (refine Below.drew ?_) | (refine bel_drewN ?_ _)))⟩
  cases a4 : (s == 0)
  rotate_left
  · have H : Hid (dirB c s h = false) := Lib.hid (dirB_f fun o => by have := o.s0; simp at a4; omega)
    go_enter Tryz.func15, Tryz.ntmps15
    go_wp2_with (go_at_call 35; refine (lacks_any _ _ _ _).mono ?_; rintro e w' ⟨rfl, rfl⟩)
    go_ret
    exact ⟨ret_bool H.out.symm, (by repeat (first | exact Below.refl _ _ | (refine Below.alloc ?_ (by simp <;> omega) _) | (refine Below.setCell ?_ (by simp <;> omega) _) | (refine Below.drew ?_) | (refine bel_drewN ?_ _)))⟩
  have b1 := hsB_t a1
  have b2 := hsB_t a2
  have b3 := hsB_t a3
  have b4 : ¬ s = 0 := by simpa using a4
  have e1 : IntKind.wrap .i64 (c * c) = c * c := wr_mul (A := 1000) (B := 1000) (by omega) (by omega) (by omega) (by omega) (by omega) (by omega)
  have e2 : IntKind.wrap .i64 (s * s) = s * s := wr_mul (A := 1000) (B := 1000) (by omega) (by omega) (by omega) (by omega) (by omega) (by omega)
  have e3 : IntKind.wrap .i64 (h * h) = h * h := wr_mul (A := 1000) (B := 1000) (by omega) (by omega) (by omega) (by omega) (by omega) (by omega)
  have q1 := mul_abs (a := c) (n := c) (A := 1000) (N := 1000) (by omega) (by omega)
  have q2 := mul_abs (a := s) (n := s) (A := 1000) (N := 1000) (by omega) (by omega)
  have e4 : IntKind.wrap .i64 (c * c + s * s) = c * c + s * s := IntWalk.i64_in _ (by omega)
  clear q1 q2
  cases a5 : (c * c + s * s != h * h)
  rotate_left
  · have H : Hid (dirB c s h = false) := Lib.hid (dirB_f fun o => by have := o.py; simp at a5; omega)
    go_enter Tryz.func15, Tryz.ntmps15
    go_wp2_with (go_at_call 35; refine (lacks_any _ _ _ _).mono ?_; rintro e w' ⟨rfl, rfl⟩)
    go_ret
    exact ⟨ret_bool H.out.symm, (by repeat (first | exact Below.refl _ _ | (refine Below.alloc ?_ (by simp <;> omega) _) | (refine Below.setCell ?_ (by simp <;> omega) _) | (refine Below.drew ?_) | (refine bel_drewN ?_ _)))⟩
  have b5 : c * c + s * s = h * h := by simpa using a5
  obtain ⟨g, hg⟩ : ∃ g, g3 c s h = g := ⟨_, rfl⟩
  have g0 : 0 < g := hg ▸ g3_pos (by omega)
  have l1 := py_le (by omega) (by omega) b5
  have H : Hid (dirB c s h = (g == 1)) := Lib.hid (by
    cases a6 : (g == 1)
    · exact dirB_f fun o => by have := o.gg; simp at a6; omega
    · exact DirOk.b ⟨by omega, by omega, by omega, by omega, by omega, by omega, b4, b5, by simp at a6; omega⟩)
  have K : Hid (∀ w : World, Calls Tryz.prog 36 #[.agg #[.int .i64 c, .int .i64 s, .int .i64 h]] w fun e w' => e = .returned (.agg #[.int .i64 (lw g c), .int .i64 (lw g s), .int .i64 (lw g h)]) ∧ Below w.heap.size w w') := Lib.hid (fun w => ilt_any c s h (by omega) (by omega) (by omega) (by omega) (by omega) (by omega) g hg w)
  cases a6 : (g == 1)
  · have HF : Hid (dirB c s h = false) := Lib.hid (H.out.trans a6)
    obtain ⟨x, hx⟩ : ∃ x, lw g c = x := ⟨_, rfl⟩
    obtain ⟨y, hy⟩ : ∃ x, lw g s = x := ⟨_, rfl⟩
    obtain ⟨z, hz⟩ : ∃ x, lw g h = x := ⟨_, rfl⟩
    have q1 : (c == x) = false := by
      have d1 := g3_1 c s h
      rw [hg] at d1
      have := lw_ne (g := g) (x := c) (by omega) g0 (by simpa using a6) d1
      rw [hx] at this
      simp; omega
    rw [hx, hy, hz] at K
    clear hx hy hz hg b5 l1 H a6
    go_enter Tryz.func15, Tryz.ntmps15
    go_wp2_with (go_at_call 35; refine (lacks_any _ _ _ _).mono ?_; rintro e w' ⟨rfl, rfl⟩)
    generalize hW : World.alloc _ _ = W
    have bX : Bk W w.heap.size #[.int .i64 c, .int .i64 s, .int .i64 h] 28 := by rw [← hW]; repeat (first | exact Bk.new' rfl | refine Bk.alloc ?_ _)
    have HB : Hid (Below w.heap.size w W) := Lib.hid (by rw [← hW]; exact (by repeat (first | exact Below.refl _ _ | (refine Below.alloc ?_ (by simp <;> omega) _) | (refine Below.setCell ?_ (by simp <;> omega) _) | (refine Below.drew ?_) | (refine bel_drewN ?_ _))))
    clear hW e1 e2 e3 e4 a1 a2 a3 a4 a5 b1 b2 b3 b4 g0
    have x0 := bX.cell 0 rfl
    have x1 := bX.cell 1 rfl
    have x2 := bX.cell 2 rfl
    go_region_with (go_at_call 36; (with_reducible refine Calls.mono (K.out _) ?_); rintro e w1 ⟨rfl, hb⟩; have d0 := kc1 (show W.drew.cell? _ = _ from x0) hb; have d1 := kc1 (show W.drew.cell? _ = _ from x1) hb; have d2 := kc1 (show W.drew.cell? _ = _ from x2) hb)
    all_goals
      go_wp2
      go_ret
      exact ⟨ret_bool HF.out.symm, bel_end HB.out (bel_end (Below.refl _ _).drew hb)⟩
  · simp at a6
    subst a6
    have HF : Hid (dirB c s h = true) := Lib.hid (H.out.trans rfl)
    rw [lw_1, lw_1, lw_1] at K
    clear hg b5 l1 H
    go_enter Tryz.func15, Tryz.ntmps15
    go_wp2_with (go_at_call 35; refine (lacks_any _ _ _ _).mono ?_; rintro e w' ⟨rfl, rfl⟩)
    generalize hW : World.alloc _ _ = W
    have bX : Bk W w.heap.size #[.int .i64 c, .int .i64 s, .int .i64 h] 28 := by rw [← hW]; repeat (first | exact Bk.new' rfl | refine Bk.alloc ?_ _)
    have HB : Hid (Below w.heap.size w W) := Lib.hid (by rw [← hW]; exact (by repeat (first | exact Below.refl _ _ | (refine Below.alloc ?_ (by simp <;> omega) _) | (refine Below.setCell ?_ (by simp <;> omega) _) | (refine Below.drew ?_) | (refine bel_drewN ?_ _))))
    clear hW e1 e2 e3 e4 a1 a2 a3 a4 a5 b1 b2 b3 b4 g0
    have x0 := bX.cell 0 rfl
    have x1 := bX.cell 1 rfl
    have x2 := bX.cell 2 rfl
    go_region_with (go_at_call 36; (with_reducible refine Calls.mono (K.out _) ?_); rintro e w1 ⟨rfl, hb⟩; have d0 := kc1 (show W.drew.cell? _ = _ from x0) hb; have d1 := kc1 (show W.drew.cell? _ = _ from x1) hb; have d2 := kc1 (show W.drew.cell? _ = _ from x2) hb)
    all_goals
      go_wp2
      go_ret
      exact ⟨ret_bool HF.out.symm, bel_end HB.out (bel_end (Below.refl _ _).drew hb)⟩
end
section
/- The contract of the model's IsDirection. -/
open Go.ChangeShapes Go.WideShapes Go.ChangeAt Go.RowKit Num
set_option linter.unusedVariables false

set_option maxRecDepth 100000 in
set_option maxHeartbeats 1000000 in
theorem sdr_1 (c s h : Int) (w : World) (a1 : inB h 1 1000 = false) :
    Calls Tryz.prog 43 #[.agg #[.int .i64 c, .int .i64 s, .int .i64 h]] w fun e w' => e = .returned (.bool (dirB c s h)) ∧ Below w.heap.size w w' := by
  have H : Hid (dirB c s h = false) := Lib.hid (dirB_f fun o => by have := inB_f a1; have := o.h1; have := o.h2; omega)
  have L1 : Hid (∀ w : World, Calls Tryz.prog 44 #[.int .i64 h, .int .i64 1, .int .i64 1000] w fun e w' => e = .returned (.bool false) ∧ w = w') := Lib.hid (fun w => by have := lin_any h 1 1000 w; rwa [a1] at this)
  clear a1
  go_enter Tryz.func43, Tryz.ntmps43
  go_wp2_with fail
  go_quiet (first | (go_at_call 44; (with_reducible exact in_call (L1.out _))) | fail)
  go_wp2
  go_ret
  exact ⟨ret_bool H.out.symm, (by repeat (first | exact Below.refl _ _ | (refine Below.alloc ?_ (by simp <;> omega) _) | (refine Below.setCell ?_ (by simp <;> omega) _) | (refine Below.drew ?_) | (refine bel_drewN ?_ _)))⟩

set_option maxRecDepth 100000 in
set_option maxHeartbeats 1000000 in
theorem sdr_2 (c s h : Int) (w : World) (a1 : inB h 1 1000 = true) (a2 : inB c 1 h = false) :
    Calls Tryz.prog 43 #[.agg #[.int .i64 c, .int .i64 s, .int .i64 h]] w fun e w' => e = .returned (.bool (dirB c s h)) ∧ Below w.heap.size w w' := by
  have H : Hid (dirB c s h = false) := Lib.hid (dirB_f fun o => by have := inB_f a2; have := o.c1; have := o.c2; omega)
  have L1 : Hid (∀ w : World, Calls Tryz.prog 44 #[.int .i64 h, .int .i64 1, .int .i64 1000] w fun e w' => e = .returned (.bool true) ∧ w = w') := Lib.hid (fun w => by have := lin_any h 1 1000 w; rwa [a1] at this)
  have L2 : Hid (∀ w : World, Calls Tryz.prog 44 #[.int .i64 c, .int .i64 1, .int .i64 h] w fun e w' => e = .returned (.bool false) ∧ w = w') := Lib.hid (fun w => by have := lin_any c 1 h w; rwa [a2] at this)
  clear a1 a2
  go_enter Tryz.func43, Tryz.ntmps43
  go_wp2_with fail
  go_quiet (first | (go_at_call 44; (with_reducible exact in_call (L1.out _))) | (go_at_call 44; (with_reducible exact in_call (L2.out _))) | fail)
  go_wp2
  go_ret
  exact ⟨ret_bool H.out.symm, (by repeat (first | exact Below.refl _ _ | (refine Below.alloc ?_ (by simp <;> omega) _) | (refine Below.setCell ?_ (by simp <;> omega) _) | (refine Below.drew ?_) | (refine bel_drewN ?_ _)))⟩

set_option maxRecDepth 100000 in
set_option maxHeartbeats 1000000 in
theorem sdr_3 (c s h : Int) (w : World) (a1 : inB h 1 1000 = true) (a2 : inB c 1 h = true) (a3 : inB s (-h) h = false) :
    Calls Tryz.prog 43 #[.agg #[.int .i64 c, .int .i64 s, .int .i64 h]] w fun e w' => e = .returned (.bool (dirB c s h)) ∧ Below w.heap.size w w' := by
  have H : Hid (dirB c s h = false) := Lib.hid (dirB_f fun o => by have := inB_f a3; have := o.s1; have := o.s2; omega)
  have e0 : IntKind.wrap .i64 (-h) = -h := IntWalk.i64_in _ (by have := inB_t a1; omega)
  have L1 : Hid (∀ w : World, Calls Tryz.prog 44 #[.int .i64 h, .int .i64 1, .int .i64 1000] w fun e w' => e = .returned (.bool true) ∧ w = w') := Lib.hid (fun w => by have := lin_any h 1 1000 w; rwa [a1] at this)
  have L2 : Hid (∀ w : World, Calls Tryz.prog 44 #[.int .i64 c, .int .i64 1, .int .i64 h] w fun e w' => e = .returned (.bool true) ∧ w = w') := Lib.hid (fun w => by have := lin_any c 1 h w; rwa [a2] at this)
  have L3 : Hid (∀ w : World, Calls Tryz.prog 44 #[.int .i64 s, .int .i64 (-h), .int .i64 h] w fun e w' => e = .returned (.bool false) ∧ w = w') := Lib.hid (fun w => by have := lin_any s (-h) h w; rwa [a3] at this)
  clear a1 a2 a3
  go_enter Tryz.func43, Tryz.ntmps43
  go_wp2_with fail
  go_quiet (first | (go_at_call 44; (with_reducible exact in_call (L1.out _))) | (go_at_call 44; (with_reducible exact in_call (L2.out _))) | (go_at_call 44; (with_reducible exact in_call (L3.out _))) | fail)
  go_wp2
  go_ret
  exact ⟨ret_bool H.out.symm, (by repeat (first | exact Below.refl _ _ | (refine Below.alloc ?_ (by simp <;> omega) _) | (refine Below.setCell ?_ (by simp <;> omega) _) | (refine Below.drew ?_) | (refine bel_drewN ?_ _)))⟩

set_option maxRecDepth 100000 in
set_option maxHeartbeats 1000000 in
theorem sdr_4 (c s h : Int) (w : World) (a1 : inB h 1 1000 = true) (a2 : inB c 1 h = true) (a3 : inB s (-h) h = true) (a4 : (s != 0) = false) :
    Calls Tryz.prog 43 #[.agg #[.int .i64 c, .int .i64 s, .int .i64 h]] w fun e w' => e = .returned (.bool (dirB c s h)) ∧ Below w.heap.size w w' := by
  have H : Hid (dirB c s h = false) := Lib.hid (dirB_f fun o => by have := o.s0; simp at a4; omega)
  have e0 : IntKind.wrap .i64 (-h) = -h := IntWalk.i64_in _ (by have := inB_t a1; omega)
  have L1 : Hid (∀ w : World, Calls Tryz.prog 44 #[.int .i64 h, .int .i64 1, .int .i64 1000] w fun e w' => e = .returned (.bool true) ∧ w = w') := Lib.hid (fun w => by have := lin_any h 1 1000 w; rwa [a1] at this)
  have L2 : Hid (∀ w : World, Calls Tryz.prog 44 #[.int .i64 c, .int .i64 1, .int .i64 h] w fun e w' => e = .returned (.bool true) ∧ w = w') := Lib.hid (fun w => by have := lin_any c 1 h w; rwa [a2] at this)
  have L3 : Hid (∀ w : World, Calls Tryz.prog 44 #[.int .i64 s, .int .i64 (-h), .int .i64 h] w fun e w' => e = .returned (.bool true) ∧ w = w') := Lib.hid (fun w => by have := lin_any s (-h) h w; rwa [a3] at this)
  clear a1 a2 a3
  go_enter Tryz.func43, Tryz.ntmps43
  go_wp2_with fail
  go_quiet (first | (go_at_call 44; (with_reducible exact in_call (L1.out _))) | (go_at_call 44; (with_reducible exact in_call (L2.out _))) | (go_at_call 44; (with_reducible exact in_call (L3.out _))) | fail)
  go_wp2
  go_ret
  exact ⟨ret_bool H.out.symm, (by repeat (first | exact Below.refl _ _ | (refine Below.alloc ?_ (by simp <;> omega) _) | (refine Below.setCell ?_ (by simp <;> omega) _) | (refine Below.drew ?_) | (refine bel_drewN ?_ _)))⟩

set_option maxRecDepth 100000 in
set_option maxHeartbeats 1000000 in
theorem sdr_5 (c s h : Int) (w : World) (a1 : inB h 1 1000 = true) (a2 : inB c 1 h = true) (a3 : inB s (-h) h = true) (a4 : (s != 0) = true) (a5 : (c * c + s * s == h * h) = false) :
    Calls Tryz.prog 43 #[.agg #[.int .i64 c, .int .i64 s, .int .i64 h]] w fun e w' => e = .returned (.bool (dirB c s h)) ∧ Below w.heap.size w w' := by
  have H : Hid (dirB c s h = false) := Lib.hid (dirB_f fun o => by have := o.py; simp at a5; omega)
  have b1 := inB_t a1
  have b2 := inB_t a2
  have b3 := inB_t a3
  have b4 : ¬ s = 0 := by simpa using a4
  have e1 : IntKind.wrap .i64 (c * c) = c * c := wr_mul (A := 1000) (B := 1000) (by omega) (by omega) (by omega) (by omega) (by omega) (by omega)
  have e2 : IntKind.wrap .i64 (s * s) = s * s := wr_mul (A := 1000) (B := 1000) (by omega) (by omega) (by omega) (by omega) (by omega) (by omega)
  have e3 : IntKind.wrap .i64 (h * h) = h * h := wr_mul (A := 1000) (B := 1000) (by omega) (by omega) (by omega) (by omega) (by omega) (by omega)
  have q1 := mul_abs (a := c) (n := c) (A := 1000) (N := 1000) (by omega) (by omega)
  have q2 := mul_abs (a := s) (n := s) (A := 1000) (N := 1000) (by omega) (by omega)
  have e4 : IntKind.wrap .i64 (c * c + s * s) = c * c + s * s := IntWalk.i64_in _ (by omega)
  clear q1 q2
  have e0 : IntKind.wrap .i64 (-h) = -h := IntWalk.i64_in _ (by have := inB_t a1; omega)
  have L1 : Hid (∀ w : World, Calls Tryz.prog 44 #[.int .i64 h, .int .i64 1, .int .i64 1000] w fun e w' => e = .returned (.bool true) ∧ w = w') := Lib.hid (fun w => by have := lin_any h 1 1000 w; rwa [a1] at this)
  have L2 : Hid (∀ w : World, Calls Tryz.prog 44 #[.int .i64 c, .int .i64 1, .int .i64 h] w fun e w' => e = .returned (.bool true) ∧ w = w') := Lib.hid (fun w => by have := lin_any c 1 h w; rwa [a2] at this)
  have L3 : Hid (∀ w : World, Calls Tryz.prog 44 #[.int .i64 s, .int .i64 (-h), .int .i64 h] w fun e w' => e = .returned (.bool true) ∧ w = w') := Lib.hid (fun w => by have := lin_any s (-h) h w; rwa [a3] at this)
  clear a1 a2 a3 b1 b2 b3 b4
  go_enter Tryz.func43, Tryz.ntmps43
  go_wp2_with fail
  go_quiet (first | (go_at_call 44; (with_reducible exact in_call (L1.out _))) | (go_at_call 44; (with_reducible exact in_call (L2.out _))) | (go_at_call 44; (with_reducible exact in_call (L3.out _))) | fail)
  go_wp2
  go_ret
  exact ⟨ret_bool H.out.symm, (by repeat (first | exact Below.refl _ _ | (refine Below.alloc ?_ (by simp <;> omega) _) | (refine Below.setCell ?_ (by simp <;> omega) _) | (refine Below.drew ?_) | (refine bel_drewN ?_ _)))⟩

set_option maxRecDepth 100000 in
set_option maxHeartbeats 1000000 in
theorem sdr_6 (c s h : Int) (w : World) (a1 : inB h 1 1000 = true) (a2 : inB c 1 h = true) (a3 : inB s (-h) h = true) (a4 : (s != 0) = true) (a5 : (c * c + s * s == h * h) = true) :
    Calls Tryz.prog 43 #[.agg #[.int .i64 c, .int .i64 s, .int .i64 h]] w fun e w' => e = .returned (.bool (dirB c s h)) ∧ Below w.heap.size w w' := by
  have b1 := inB_t a1
  have b2 := inB_t a2
  have b3 := inB_t a3
  have b4 : ¬ s = 0 := by simpa using a4
  have e1 : IntKind.wrap .i64 (c * c) = c * c := wr_mul (A := 1000) (B := 1000) (by omega) (by omega) (by omega) (by omega) (by omega) (by omega)
  have e2 : IntKind.wrap .i64 (s * s) = s * s := wr_mul (A := 1000) (B := 1000) (by omega) (by omega) (by omega) (by omega) (by omega) (by omega)
  have e3 : IntKind.wrap .i64 (h * h) = h * h := wr_mul (A := 1000) (B := 1000) (by omega) (by omega) (by omega) (by omega) (by omega) (by omega)
  have q1 := mul_abs (a := c) (n := c) (A := 1000) (N := 1000) (by omega) (by omega)
  have q2 := mul_abs (a := s) (n := s) (A := 1000) (N := 1000) (by omega) (by omega)
  have e4 : IntKind.wrap .i64 (c * c + s * s) = c * c + s * s := IntWalk.i64_in _ (by omega)
  clear q1 q2
  have e0 : IntKind.wrap .i64 (-h) = -h := IntWalk.i64_in _ (by have := inB_t a1; omega)
  have L1 : Hid (∀ w : World, Calls Tryz.prog 44 #[.int .i64 h, .int .i64 1, .int .i64 1000] w fun e w' => e = .returned (.bool true) ∧ w = w') := Lib.hid (fun w => by have := lin_any h 1 1000 w; rwa [a1] at this)
  have L2 : Hid (∀ w : World, Calls Tryz.prog 44 #[.int .i64 c, .int .i64 1, .int .i64 h] w fun e w' => e = .returned (.bool true) ∧ w = w') := Lib.hid (fun w => by have := lin_any c 1 h w; rwa [a2] at this)
  have L3 : Hid (∀ w : World, Calls Tryz.prog 44 #[.int .i64 s, .int .i64 (-h), .int .i64 h] w fun e w' => e = .returned (.bool true) ∧ w = w') := Lib.hid (fun w => by have := lin_any s (-h) h w; rwa [a3] at this)
  have b5 : c * c + s * s = h * h := by simpa using a5
  obtain ⟨k, hk⟩ : ∃ k, gc c s = k := ⟨_, rfl⟩
  obtain ⟨g, hg⟩ : ∃ g, gc k h = g := ⟨_, rfl⟩
  have k0 : 0 ≤ k := hk ▸ Int.natCast_nonneg _
  have k1 : k ≤ 1000 := by have := gc_le (a := c) b4; omega
  have H : Hid (dirB c s h = (g == 1)) := Lib.hid (by
    have e : g3 c s h = g := by unfold g3; rw [hk, hg]
    cases a6 : (g == 1)
    · exact dirB_f fun o => by have := o.gg; simp at a6; omega
    · exact DirOk.b ⟨by omega, by omega, by omega, by omega, by omega, by omega, b4, b5, by simp at a6; omega⟩)
  have D1 : Hid (∀ w : World, Calls Tryz.prog 65 #[.int .i64 c, .int .i64 s] w fun e w' => e = .returned (.int .i64 k) ∧ ∃ n, w' = w.drewN n) := Lib.hid (fun w => by have := ldv_any c s (by omega) (by omega) (by omega) (by omega) w; rwa [hk] at this)
  have D2 : Hid (∀ w : World, Calls Tryz.prog 65 #[.int .i64 k, .int .i64 h] w fun e w' => e = .returned (.int .i64 g) ∧ ∃ n, w' = w.drewN n) := Lib.hid (fun w => by have := ldv_any k h (by omega) (by omega) (by omega) (by omega) w; rwa [hg] at this)
  clear hk hg b5 a1 a2 a3 b1 b2 b3 b4 k0 k1
  go_enter Tryz.func43, Tryz.ntmps43
  go_wp2_with fail
  go_quiet (first | (go_at_call 44; (with_reducible exact in_call (L1.out _))) | (go_at_call 44; (with_reducible exact in_call (L2.out _))) | (go_at_call 44; (with_reducible exact in_call (L3.out _))) | (go_at_call 65; (with_reducible exact dq_call (D1.out _))) | (go_at_call 65; (with_reducible exact dq_call (D2.out _))) | fail)
  go_wp2
  go_ret
  exact ⟨ret_bool H.out.symm, (by repeat (first | exact Below.refl _ _ | (refine Below.alloc ?_ (by simp <;> omega) _) | (refine Below.setCell ?_ (by simp <;> omega) _) | (refine Below.drew ?_) | (refine bel_drewN ?_ _)))⟩

theorem sdr_any (c s h : Int) (w : World) :
    Calls Tryz.prog 43 #[.agg #[.int .i64 c, .int .i64 s, .int .i64 h]] w fun e w' => e = .returned (.bool (dirB c s h)) ∧ Below w.heap.size w w' := by
  cases a1 : inB h 1 1000
  · exact sdr_1 c s h w a1
  cases a2 : inB c 1 h
  · exact sdr_2 c s h w a1 a2
  cases a3 : inB s (-h) h
  · exact sdr_3 c s h w a1 a2 a3
  cases a4 : (s != 0)
  · exact sdr_4 c s h w a1 a2 a3 a4
  cases a5 : (c * c + s * s == h * h)
  · exact sdr_5 c s h w a1 a2 a3 a4 a5
  · exact sdr_6 c s h w a1 a2 a3 a4 a5
end
end Go.Proofs.YtgecbfbmmbfnmaaGreat
