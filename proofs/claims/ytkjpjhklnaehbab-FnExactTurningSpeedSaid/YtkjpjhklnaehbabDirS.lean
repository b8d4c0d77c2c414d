/- The contract of the model's IsDirection. -/
import Derived.Test.YtkjpjhklnaehbabDir
namespace Go.Proofs.Ytkjpjhklnaehbab
open Go.ChangeShapes Go.WideShapes Go.ChangeAt Go.RowKit Num
set_option linter.unusedVariables false

set_option maxRecDepth 100000 in
set_option maxHeartbeats 1000000 in
theorem sdr_1 (c s h : Int) (w : World) (a1 : inB h 1 1000 = false) :
    Calls Try.prog 47 #[.agg #[.int .i64 c, .int .i64 s, .int .i64 h]] w fun e w' => e = .returned (.bool (dirB c s h)) ∧ Below w.heap.size w w' := by
  have H : Hid (dirB c s h = false) := Lib.hid (dirB_f fun o => by have := inB_f a1; have := o.h1; have := o.h2; omega)
  have L1 : Hid (∀ w : World, Calls Try.prog 48 #[.int .i64 h, .int .i64 1, .int .i64 1000] w fun e w' => e = .returned (.bool false) ∧ w = w') := Lib.hid (fun w => by have := lin_any h 1 1000 w; rwa [a1] at this)
  clear a1
  go_enter Try.func47, Try.ntmps47
  go_wp2_with fail
  go_quiet (first | (go_at_call 48; (with_reducible exact in_call (L1.out _))) | fail)
  go_wp2
  go_ret
  exact ⟨ret_bool H.out.symm, (by repeat (first | exact Below.refl _ _ | (refine Below.alloc ?_ (by simp <;> omega) _) | (refine Below.setCell ?_ (by simp <;> omega) _) | (refine Below.drew ?_) | (refine bel_drewN ?_ _)))⟩

set_option maxRecDepth 100000 in
set_option maxHeartbeats 1000000 in
theorem sdr_2 (c s h : Int) (w : World) (a1 : inB h 1 1000 = true) (a2 : inB c 1 h = false) :
    Calls Try.prog 47 #[.agg #[.int .i64 c, .int .i64 s, .int .i64 h]] w fun e w' => e = .returned (.bool (dirB c s h)) ∧ Below w.heap.size w w' := by
  have H : Hid (dirB c s h = false) := Lib.hid (dirB_f fun o => by have := inB_f a2; have := o.c1; have := o.c2; omega)
  have L1 : Hid (∀ w : World, Calls Try.prog 48 #[.int .i64 h, .int .i64 1, .int .i64 1000] w fun e w' => e = .returned (.bool true) ∧ w = w') := Lib.hid (fun w => by have := lin_any h 1 1000 w; rwa [a1] at this)
  have L2 : Hid (∀ w : World, Calls Try.prog 48 #[.int .i64 c, .int .i64 1, .int .i64 h] w fun e w' => e = .returned (.bool false) ∧ w = w') := Lib.hid (fun w => by have := lin_any c 1 h w; rwa [a2] at this)
  clear a1 a2
  go_enter Try.func47, Try.ntmps47
  go_wp2_with fail
  go_quiet (first | (go_at_call 48; (with_reducible exact in_call (L1.out _))) | (go_at_call 48; (with_reducible exact in_call (L2.out _))) | fail)
  go_wp2
  go_ret
  exact ⟨ret_bool H.out.symm, (by repeat (first | exact Below.refl _ _ | (refine Below.alloc ?_ (by simp <;> omega) _) | (refine Below.setCell ?_ (by simp <;> omega) _) | (refine Below.drew ?_) | (refine bel_drewN ?_ _)))⟩

set_option maxRecDepth 100000 in
set_option maxHeartbeats 1000000 in
theorem sdr_3 (c s h : Int) (w : World) (a1 : inB h 1 1000 = true) (a2 : inB c 1 h = true) (a3 : inB s (-h) h = false) :
    Calls Try.prog 47 #[.agg #[.int .i64 c, .int .i64 s, .int .i64 h]] w fun e w' => e = .returned (.bool (dirB c s h)) ∧ Below w.heap.size w w' := by
  have H : Hid (dirB c s h = false) := Lib.hid (dirB_f fun o => by have := inB_f a3; have := o.s1; have := o.s2; omega)
  have e0 : IntKind.wrap .i64 (-h) = -h := IntWalk.i64_in _ (by have := inB_t a1; omega)
  have L1 : Hid (∀ w : World, Calls Try.prog 48 #[.int .i64 h, .int .i64 1, .int .i64 1000] w fun e w' => e = .returned (.bool true) ∧ w = w') := Lib.hid (fun w => by have := lin_any h 1 1000 w; rwa [a1] at this)
  have L2 : Hid (∀ w : World, Calls Try.prog 48 #[.int .i64 c, .int .i64 1, .int .i64 h] w fun e w' => e = .returned (.bool true) ∧ w = w') := Lib.hid (fun w => by have := lin_any c 1 h w; rwa [a2] at this)
  have L3 : Hid (∀ w : World, Calls Try.prog 48 #[.int .i64 s, .int .i64 (-h), .int .i64 h] w fun e w' => e = .returned (.bool false) ∧ w = w') := Lib.hid (fun w => by have := lin_any s (-h) h w; rwa [a3] at this)
  clear a1 a2 a3
  go_enter Try.func47, Try.ntmps47
  go_wp2_with fail
  go_quiet (first | (go_at_call 48; (with_reducible exact in_call (L1.out _))) | (go_at_call 48; (with_reducible exact in_call (L2.out _))) | (go_at_call 48; (with_reducible exact in_call (L3.out _))) | fail)
  go_wp2
  go_ret
  exact ⟨ret_bool H.out.symm, (by repeat (first | exact Below.refl _ _ | (refine Below.alloc ?_ (by simp <;> omega) _) | (refine Below.setCell ?_ (by simp <;> omega) _) | (refine Below.drew ?_) | (refine bel_drewN ?_ _)))⟩

set_option maxRecDepth 100000 in
set_option maxHeartbeats 1000000 in
theorem sdr_4 (c s h : Int) (w : World) (a1 : inB h 1 1000 = true) (a2 : inB c 1 h = true) (a3 : inB s (-h) h = true) (a4 : (s != 0) = false) :
    Calls Try.prog 47 #[.agg #[.int .i64 c, .int .i64 s, .int .i64 h]] w fun e w' => e = .returned (.bool (dirB c s h)) ∧ Below w.heap.size w w' := by
  have H : Hid (dirB c s h = false) := Lib.hid (dirB_f fun o => by have := o.s0; simp at a4; omega)
  have e0 : IntKind.wrap .i64 (-h) = -h := IntWalk.i64_in _ (by have := inB_t a1; omega)
  have L1 : Hid (∀ w : World, Calls Try.prog 48 #[.int .i64 h, .int .i64 1, .int .i64 1000] w fun e w' => e = .returned (.bool true) ∧ w = w') := Lib.hid (fun w => by have := lin_any h 1 1000 w; rwa [a1] at this)
  have L2 : Hid (∀ w : World, Calls Try.prog 48 #[.int .i64 c, .int .i64 1, .int .i64 h] w fun e w' => e = .returned (.bool true) ∧ w = w') := Lib.hid (fun w => by have := lin_any c 1 h w; rwa [a2] at this)
  have L3 : Hid (∀ w : World, Calls Try.prog 48 #[.int .i64 s, .int .i64 (-h), .int .i64 h] w fun e w' => e = .returned (.bool true) ∧ w = w') := Lib.hid (fun w => by have := lin_any s (-h) h w; rwa [a3] at this)
  clear a1 a2 a3
  go_enter Try.func47, Try.ntmps47
  go_wp2_with fail
  go_quiet (first | (go_at_call 48; (with_reducible exact in_call (L1.out _))) | (go_at_call 48; (with_reducible exact in_call (L2.out _))) | (go_at_call 48; (with_reducible exact in_call (L3.out _))) | fail)
  go_wp2
  go_ret
  exact ⟨ret_bool H.out.symm, (by repeat (first | exact Below.refl _ _ | (refine Below.alloc ?_ (by simp <;> omega) _) | (refine Below.setCell ?_ (by simp <;> omega) _) | (refine Below.drew ?_) | (refine bel_drewN ?_ _)))⟩

set_option maxRecDepth 100000 in
set_option maxHeartbeats 1000000 in
theorem sdr_5 (c s h : Int) (w : World) (a1 : inB h 1 1000 = true) (a2 : inB c 1 h = true) (a3 : inB s (-h) h = true) (a4 : (s != 0) = true) (a5 : (c * c + s * s == h * h) = false) :
    Calls Try.prog 47 #[.agg #[.int .i64 c, .int .i64 s, .int .i64 h]] w fun e w' => e = .returned (.bool (dirB c s h)) ∧ Below w.heap.size w w' := by
  have H : Hid (dirB c s h = false) := Lib.hid (dirB_f fun o => by have := o.py; simp at a5; omega)
  have b1 := inB_t a1
  have b2 := inB_t a2
  have b3 := inB_t a3
  have b4 : ¬ s = 0 := by simpa using a4
  have e1 : IntKind.wrap .i64 (c * c) = c * c := wr_mul (A := 1000) (B := 1000) (by omega) (by omega) (by omega) (by omega) (by omega) (by omega)
  have e2 : IntKind.wrap .i64 (s * s) = s * s := wr_mul (A := 1000) (B := 1000) (by omega) (by omega) (by omega) (by omega) (by omega) (by omega)
  have e3 : IntKind.wrap .i64 (h * h) = h * h := wr_mul (A := 1000) (B := 1000) (by omega) (by omega) (by omega) (by omega) (by omega) (by omega)
  have q1 := mul_abs (a := c) (n := c) (A := 1000) (N := 1000) (by omega) (by omega)
  have q2 := mul_abs (a := s) (n := s) (A := 1000) (N := 1000) (by omega) (by omega)
  have e4 : IntKind.wrap .i64 (c * c + s * s) = c * c + s * s := IntWalk.i64_in _ (by omega)
  clear q1 q2
  have e0 : IntKind.wrap .i64 (-h) = -h := IntWalk.i64_in _ (by have := inB_t a1; omega)
  have L1 : Hid (∀ w : World, Calls Try.prog 48 #[.int .i64 h, .int .i64 1, .int .i64 1000] w fun e w' => e = .returned (.bool true) ∧ w = w') := Lib.hid (fun w => by have := lin_any h 1 1000 w; rwa [a1] at this)
  have L2 : Hid (∀ w : World, Calls Try.prog 48 #[.int .i64 c, .int .i64 1, .int .i64 h] w fun e w' => e = .returned (.bool true) ∧ w = w') := Lib.hid (fun w => by have := lin_any c 1 h w; rwa [a2] at this)
  have L3 : Hid (∀ w : World, Calls Try.prog 48 #[.int .i64 s, .int .i64 (-h), .int .i64 h] w fun e w' => e = .returned (.bool true) ∧ w = w') := Lib.hid (fun w => by have := lin_any s (-h) h w; rwa [a3] at this)
  clear a1 a2 a3 b1 b2 b3 b4
  go_enter Try.func47, Try.ntmps47
  go_wp2_with fail
  go_quiet (first | (go_at_call 48; (with_reducible exact in_call (L1.out _))) | (go_at_call 48; (with_reducible exact in_call (L2.out _))) | (go_at_call 48; (with_reducible exact in_call (L3.out _))) | fail)
  go_wp2
  go_ret
  exact ⟨ret_bool H.out.symm, (by repeat (first | exact Below.refl _ _ | (refine Below.alloc ?_ (by simp <;> omega) _) | (refine Below.setCell ?_ (by simp <;> omega) _) | (refine Below.drew ?_) | (refine bel_drewN ?_ _)))⟩

set_option maxRecDepth 100000 in
set_option maxHeartbeats 1000000 in
theorem sdr_6 (c s h : Int) (w : World) (a1 : inB h 1 1000 = true) (a2 : inB c 1 h = true) (a3 : inB s (-h) h = true) (a4 : (s != 0) = true) (a5 : (c * c + s * s == h * h) = true) :
    Calls Try.prog 47 #[.agg #[.int .i64 c, .int .i64 s, .int .i64 h]] w fun e w' => e = .returned (.bool (dirB c s h)) ∧ Below w.heap.size w w' := by
  have b1 := inB_t a1
  have b2 := inB_t a2
  have b3 := inB_t a3
  have b4 : ¬ s = 0 := by simpa using a4
  have e1 : IntKind.wrap .i64 (c * c) = c * c := wr_mul (A := 1000) (B := 1000) (by omega) (by omega) (by omega) (by omega) (by omega) (by omega)
  have e2 : IntKind.wrap .i64 (s * s) = s * s := wr_mul (A := 1000) (B := 1000) (by omega) (by omega) (by omega) (by omega) (by omega) (by omega)
  have e3 : IntKind.wrap .i64 (h * h) = h * h := wr_mul (A := 1000) (B := 1000) (by omega) (by omega) (by omega) (by omega) (by omega) (by omega)
  have q1 := mul_abs (a := c) (n := c) (A := 1000) (N := 1000) (by omega) (by omega)
  have q2 := mul_abs (a := s) (n := s) (A := 1000) (N := 1000) (by omega) (by omega)
  have e4 : IntKind.wrap .i64 (c * c + s * s) = c * c + s * s := IntWalk.i64_in _ (by omega)
  clear q1 q2
  have e0 : IntKind.wrap .i64 (-h) = -h := IntWalk.i64_in _ (by have := inB_t a1; omega)
  have L1 : Hid (∀ w : World, Calls Try.prog 48 #[.int .i64 h, .int .i64 1, .int .i64 1000] w fun e w' => e = .returned (.bool true) ∧ w = w') := Lib.hid (fun w => by have := lin_any h 1 1000 w; rwa [a1] at this)
  have L2 : Hid (∀ w : World, Calls Try.prog 48 #[.int .i64 c, .int .i64 1, .int .i64 h] w fun e w' => e = .returned (.bool true) ∧ w = w') := Lib.hid (fun w => by have := lin_any c 1 h w; rwa [a2] at this)
  have L3 : Hid (∀ w : World, Calls Try.prog 48 #[.int .i64 s, .int .i64 (-h), .int .i64 h] w fun e w' => e = .returned (.bool true) ∧ w = w') := Lib.hid (fun w => by have := lin_any s (-h) h w; rwa [a3] at this)
  have b5 : c * c + s * s = h * h := by simpa using a5
  obtain ⟨k, hk⟩ : ∃ k, gc c s = k := ⟨_, rfl⟩
  obtain ⟨g, hg⟩ : ∃ g, gc k h = g := ⟨_, rfl⟩
  have k0 : 0 ≤ k := hk ▸ Int.natCast_nonneg _
  have k1 : k ≤ 1000 := by have := gc_le (a := c) b4; omega
  have H : Hid (dirB c s h = (g == 1)) := Lib.hid (by
    have e : g3 c s h = g := by unfold g3; rw [hk, hg]
    cases a6 : (g == 1)
    · exact dirB_f fun o => by have := o.gg; simp at a6; omega
    · exact DirOk.b ⟨by omega, by omega, by omega, by omega, by omega, by omega, b4, b5, by simp at a6; omega⟩)
  have D1 : Hid (∀ w : World, Calls Try.prog 49 #[.int .i64 c, .int .i64 s] w fun e w' => e = .returned (.int .i64 k) ∧ ∃ n, w' = w.drewN n) := Lib.hid (fun w => by have := ldv_any c s (by omega) (by omega) (by omega) (by omega) w; rwa [hk] at this)
  have D2 : Hid (∀ w : World, Calls Try.prog 49 #[.int .i64 k, .int .i64 h] w fun e w' => e = .returned (.int .i64 g) ∧ ∃ n, w' = w.drewN n) := Lib.hid (fun w => by have := ldv_any k h (by omega) (by omega) (by omega) (by omega) w; rwa [hg] at this)
  clear hk hg b5 a1 a2 a3 b1 b2 b3 b4 k0 k1
  go_enter Try.func47, Try.ntmps47
  go_wp2_with fail
  go_quiet (first | (go_at_call 48; (with_reducible exact in_call (L1.out _))) | (go_at_call 48; (with_reducible exact in_call (L2.out _))) | (go_at_call 48; (with_reducible exact in_call (L3.out _))) | (go_at_call 49; (with_reducible exact dq_call (D1.out _))) | (go_at_call 49; (with_reducible exact dq_call (D2.out _))) | fail)
  go_wp2
  go_ret
  exact ⟨ret_bool H.out.symm, (by repeat (first | exact Below.refl _ _ | (refine Below.alloc ?_ (by simp <;> omega) _) | (refine Below.setCell ?_ (by simp <;> omega) _) | (refine Below.drew ?_) | (refine bel_drewN ?_ _)))⟩

theorem sdr_any (c s h : Int) (w : World) :
    Calls Try.prog 47 #[.agg #[.int .i64 c, .int .i64 s, .int .i64 h]] w fun e w' => e = .returned (.bool (dirB c s h)) ∧ Below w.heap.size w w' := by
  cases a1 : inB h 1 1000
  · exact sdr_1 c s h w a1
  cases a2 : inB c 1 h
  · exact sdr_2 c s h w a1 a2
  cases a3 : inB s (-h) h
  · exact sdr_3 c s h w a1 a2 a3
  cases a4 : (s != 0)
  · exact sdr_4 c s h w a1 a2 a3 a4
  cases a5 : (c * c + s * s == h * h)
  · exact sdr_5 c s h w a1 a2 a3 a4 a5
  · exact sdr_6 c s h w a1 a2 a3 a4 a5
end Go.Proofs.Ytkjpjhklnaehbab
