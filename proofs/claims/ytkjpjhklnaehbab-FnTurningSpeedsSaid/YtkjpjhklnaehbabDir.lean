/- Contracts of directions: the program's and the model's IsDirection, MakeDirection, MirrorDirection, and their helpers. -/
import Derived.Test.YtkjpjhklnaehbabMth
import Derived.Test.YtkjpjhklnaehbabBas
import Derived.Test.YtkjpjhklnaehbabPrs
import Derived.Deep.RegionWith
namespace Go.Proofs.Ytkjpjhklnaehbab
open Go.ChangeShapes Go.WideShapes Go.ChangeAt Go.RowKit Num
set_option linter.unusedVariables false
theorem hsB_t {a b x : Int} (h : hasB a b x = true) : a ≤ x ∧ x ≤ b := by unfold hasB at h; simpa using h
theorem hsB_f {a b x : Int} (h : hasB a b x = false) : x < a ∨ b < x := by
  unfold hasB at h
  rw [Bool.and_eq_false_iff] at h
  rcases h with h | h
  · have := of_decide_eq_false h; omega
  · have := of_decide_eq_false h; omega
/-- the lowest terms of a number that is not too great lie within its bounds -/
theorem lw_bd (g x : Int) : -(x.natAbs : Int) ≤ lw g x ∧ lw g x ≤ x.natAbs := Num.tdiv_bd x g
/-- a number within 64 bits, multiplied -/
theorem wr_mul {a b A B : Int} (h1 : -A ≤ a) (h2 : a ≤ A) (h3 : -B ≤ b) (h4 : b ≤ B) (h5 : A ≤ 2000000000) (h6 : B ≤ 2000000000) : IntKind.wrap .i64 (a * b) = a * b := by
  refine IntWalk.i64_in _ ?_
  have := mul_abs (a := a) (n := b) (A := A.toNat) (N := B.toNat) (by omega) (by omega)
  have h7 : A.toNat * B.toNat ≤ 2000000000 * 2000000000 := Nat.mul_le_mul (by omega) (by omega)
  omega

section
variable {P : Program} {f : FuncId} {args : Array Value} {w : World} {v : Value}
/-- a callee that only draws, met in a region that only reads -/
theorem dq_call {n : Nat} (h : Calls P f args (w.drewN n) fun e w' => e = .returned v ∧ ∃ k, w' = (w.drewN n).drewN k) : Calls P f args (w.drewN n) fun e w2 => e = .returned v ∧ ∃ m, w2 = w.drewN m :=
  h.mono fun e w2 ⟨he, k, hw⟩ => ⟨he, n + k, by rw [hw, World.drewN_drewN]⟩
theorem dq_call2 {a n : Nat} (h : Calls P f args (w.drewN (a + n)) fun e w' => e = .returned v ∧ ∃ k, w' = (w.drewN (a + n)).drewN k) : Calls P f args (w.drewN (a + n)) fun e w2 => e = .returned v ∧ ∃ m, w2 = w.drewN (a + m) :=
  h.mono fun e w2 ⟨he, k, hw⟩ => ⟨he, n + k, by rw [hw, World.drewN_drewN, Nat.add_assoc]⟩
end

set_option maxRecDepth 100000 in
set_option maxHeartbeats 1000000 in
theorem ilt_any (c s h : Int) (c1 : -1000000000 ≤ c) (c2 : c ≤ 1000000000) (s1 : -1000000000 ≤ s) (s2 : s ≤ 1000000000) (h1 : 0 < h) (h2 : h ≤ 1000000000) (g : Int) (hg : g3 c s h = g) (w : World) :
    Calls Try.prog 69 #[.agg #[.int .i64 c, .int .i64 s, .int .i64 h]] w fun e w' => e = .returned (.agg #[.int .i64 (lw g c), .int .i64 (lw g s), .int .i64 (lw g h)]) ∧ Below w.heap.size w w' := by
  have g0 : 0 < g := hg ▸ g3_pos (by omega)
  have gz : ¬ g = 0 := by omega
  have gb : (g == 0) = false := by simp; omega
  have k1 : gc c s ≤ 9000000000000000000 := by
    by_cases e : s = 0
    · subst e; rw [gc_zero]; omega
    · have := gc_le (a := c) e; omega
  have k0 : 0 ≤ gc c s := Int.natCast_nonneg _
  have HG : Hid (gc (gc c s) h = g) := Lib.hid hg
  have t1 := lw_bd g c
  have t2 := lw_bd g s
  have t3 := lw_bd g h
  have i1 : -9000000000000000000 ≤ c.tdiv g := by unfold lw at t1; omega
  have i2 : c.tdiv g ≤ 9000000000000000000 := by unfold lw at t1; omega
  have i3 : -9000000000000000000 ≤ s.tdiv g := by unfold lw at t2; omega
  have i4 : s.tdiv g ≤ 9000000000000000000 := by unfold lw at t2; omega
  have i5 : -9000000000000000000 ≤ h.tdiv g := by unfold lw at t3; omega
  have i6 : h.tdiv g ≤ 9000000000000000000 := by unfold lw at t3; omega
  have y1 : IntKind.wrap .i64 (c.tdiv g) = c.tdiv g := IntWalk.i64_in _ (by omega)
  have y2 : IntKind.wrap .i64 (s.tdiv g) = s.tdiv g := IntWalk.i64_in _ (by omega)
  have y3 : IntKind.wrap .i64 (h.tdiv g) = h.tdiv g := IntWalk.i64_in _ (by omega)
  obtain ⟨k, hk⟩ : ∃ k, gc c s = k := ⟨_, rfl⟩
  rw [hk] at k0 k1
  have HK := Lib.hid hk
  replace HG : Hid (gc k h = g) := Lib.hid (by rw [← hk]; exact HG.out)
  have K1 : Hid (∀ w : World, Calls Try.prog 84 #[.int .i64 c, .int .i64 s] w fun e w' => e = .returned (.int .i64 k) ∧ ∃ n, w' = w.drewN n) := Lib.hid (fun w => by have := igd_any c s (by omega) (by omega) (by omega) (by omega) w; rwa [hk] at this)
  have K2 : Hid (∀ w : World, Calls Try.prog 84 #[.int .i64 k, .int .i64 h] w fun e w' => e = .returned (.int .i64 g) ∧ ∃ n, w' = w.drewN n) := Lib.hid (fun w => by have := igd_any k h (by omega) (by omega) (by omega) (by omega) w; rwa [HG.out] at this)
  clear hk hg t1 t2 t3 HK HG
  go_enter Try.func69, Try.ntmps69
  go_wp2_with fail
  go_quiet (first | (go_at_call 84; (with_reducible exact dq_call (K1.out _))) | (go_at_call 84; (with_reducible exact dq_call (K2.out _))) | fail)
  go_wp2
  go_region_with (fail)
  all_goals
    go_wp2
    exact bodyPost_ret (v := .agg #[.int .i64 (c.tdiv g), .int .i64 (s.tdiv g), .int .i64 (h.tdiv g)]) (by simp [results, Try.results69, go_sem]) rfl ⟨rfl, (by repeat (first | exact Below.refl _ _ | (refine Below.alloc ?_ (by simp <;> omega) _) | (refine Below.setCell ?_ (by simp <;> omega) _) | (refine Below.drew ?_) | (refine bel_drewN ?_ _)))⟩

theorem in_call {P : Program} {f : FuncId} {args : Array Value} {w : World} {v : Value} {n : Nat} (h : Calls P f args (w.drewN n) fun e w' => e = .returned v ∧ w.drewN n = w') : Calls P f args (w.drewN n) fun e w2 => e = .returned v ∧ ∃ m, w2 = w.drewN m :=
  h.mono fun e w2 ⟨he, hw⟩ => ⟨he, n, hw.symm⟩
end Go.Proofs.Ytkjpjhklnaehbab
