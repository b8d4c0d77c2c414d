/- Contracts of ProductInterval, the program's and the model's. -/
import Derived.Test.YtfcbagjjpclplaaCorn
import Derived.Test.YtfcbagjjpclplaaBas
namespace Go.Proofs.Ytfcbagjjpclplaa
open Go.ChangeShapes Go.WideShapes Go.ChangeAt Go.RowKit Num
set_option linter.unusedVariables false
/-- the bounds are small -/
def smallB (a b : Int) : Bool := decide (-1000000 ≤ a) && decide (b ≤ 1000000)
theorem small_t {a b : Int} (h : smallB a b = true) (hv : vldB a b = true) : a.natAbs ≤ 1000000 ∧ b.natAbs ≤ 1000000 := by
  unfold smallB at h
  simp only [Bool.and_eq_true, decide_eq_true_eq] at h
  have := vldB_t hv
  omega
theorem sml_any (a b : Int) (w : World) :
    Calls Try.prog 46 #[.agg #[.int .i64 a, .int .i64 b]] w fun e w' => e = .returned (.bool (smallB a b)) ∧ w' = w.alloc (.cells #[.int .i64 a, .int .i64 b] 25) := by
  cases ha : decide (-1000000 ≤ a) <;> cases hb : decide (b ≤ 1000000)
  all_goals
    go_enter Try.func46, Try.ntmps46
    go_wp2
    go_ret
    exact ⟨ret_bool (by unfold smallB; rw [ha, hb]; rfl), rfl⟩
def mn4 (p q r s : Int) : Int := mnTo [p, q, r, s] 3
def mx4 (p q r s : Int) : Int := mxTo [p, q, r, s] 3
section
variable {P : Program} {w : World}
theorem run_min_four (ts : Array TypeId) (t : TypeId) (x y z u : Int) : (Builtin.min_ ts t #[.int .i64 x, .int .i64 y, .int .i64 z, .int .i64 u]).run P w = .ok (.int .i64 (mn4 x y z u)) w := by
  simp [Builtin.min_, Builtin.min2, mn4, mnTo]
theorem run_max_four (ts : Array TypeId) (t : TypeId) (x y z u : Int) : (Builtin.max_ ts t #[.int .i64 x, .int .i64 y, .int .i64 z, .int .i64 u]).run P w = .ok (.int .i64 (mx4 x y z u)) w := by
  simp [Builtin.max_, Builtin.max2, mx4, mxTo]
end
attribute [local go_sem] run_min_four run_max_four
theorem anyLack4 {a b c d : Int} (h1 : a ≤ b) (h2 : c ≤ d) : anyLack (-1000000) 1000000 [a, b, c, d] = !(smallB a b && smallB c d) := by
  unfold anyLack smallB hasB
  rw [Bool.eq_iff_iff]
  simp
  omega
theorem ints4_at {W : World} {B g : Nat} {p q r s : Int} (hg : g < B) (h0 : W.cell? ⟨g, 0, none⟩ = some (.int .i64 p)) (h1 : W.cell? ⟨g, 1, none⟩ = some (.int .i64 q)) (h2 : W.cell? ⟨g, 2, none⟩ = some (.int .i64 r)) (h3 : W.cell? ⟨g, 3, none⟩ = some (.int .i64 s)) :
    Ints .i64 W B (some ⟨g, 0, none⟩) [p, q, r, s] :=
  fun _ => ⟨g, 0, rfl, hg, fun j hj => by
    have hj4 : j < 4 := hj
    match j, hj4 with
    | 0, _ => exact h0
    | 1, _ => exact h1
    | 2, _ => exact h2
    | 3, _ => exact h3⟩
theorem min4_any (w : World) (B g : Nat) (p q r s : Int) (hz : Ints .i64 w B (some ⟨g, 0, none⟩) [p, q, r, s]) :
    Calls Try.prog 42 #[.slice (some ⟨g, 0, none⟩) 4 4] w fun e w' => e = .returned (.int .i64 (mn4 p q r s)) ∧ w = w' := mini_any w B _ 4 [p, q, r, s] (by simp) (by simp) hz
theorem max4_any (w : World) (B g : Nat) (p q r s : Int) (hz : Ints .i64 w B (some ⟨g, 0, none⟩) [p, q, r, s]) :
    Calls Try.prog 43 #[.slice (some ⟨g, 0, none⟩) 4 4] w fun e w' => e = .returned (.int .i64 (mx4 p q r s)) ∧ w = w' := maxi_any w B _ 4 [p, q, r, s] (by simp) (by simp) hz
theorem cf4_any (w : World) (g : Nat) (p q r s lo hi : Int) (hz : Ints .i64 w w.heap.size (some ⟨g, 0, none⟩) [p, q, r, s]) :
    Calls Try.prog 38 #[.slice (some ⟨g, 0, none⟩) 4 4, .func (.func 39) #[.agg #[.int .i64 lo, .int .i64 hi]] #[]] w fun e w' => e = .returned (.bool (anyLack lo hi [p, q, r, s])) ∧ Below w.heap.size w w' := cfl_any w _ 4 [p, q, r, s] lo hi (by simp) hz
/-- the product -/
def prdT (a b c d : Int) : Int × Int × Int := if vldB a b && vldB c d then (if smallB a b && smallB c d then within (mn4 (a * c) (a * d) (b * c) (b * d)) (mx4 (a * c) (a * d) (b * c) (b * d)) else (0, 0, 2)) else (0, 0, 1)
theorem prdT_ok {a b c d : Int} (h1 : (vldB a b && vldB c d) = true) (h2 : (smallB a b && smallB c d) = true) : prdT a b c d = within (mn4 (a * c) (a * d) (b * c) (b * d)) (mx4 (a * c) (a * d) (b * c) (b * d)) := by unfold prdT; rw [if_pos h1, if_pos h2]
theorem prdT_big {a b c d : Int} (h1 : (vldB a b && vldB c d) = true) (h2 : (smallB a b && smallB c d) = false) : prdT a b c d = (0, 0, 2) := by unfold prdT; rw [if_pos h1, h2]; rfl
theorem prdT_bad {a b c d : Int} (h1 : (vldB a b && vldB c d) = false) : prdT a b c d = (0, 0, 1) := by unfold prdT; rw [h1]; rfl
theorem prd_facts {a b c d : Int} (h1 : a.natAbs ≤ 1000000) (h2 : b.natAbs ≤ 1000000) (h3 : c.natAbs ≤ 1000000) (h4 : d.natAbs ≤ 1000000) :
    (-1000000000000 ≤ a * c ∧ a * c ≤ 1000000000000) ∧ (-1000000000000 ≤ a * d ∧ a * d ≤ 1000000000000) ∧ (-1000000000000 ≤ b * c ∧ b * c ≤ 1000000000000) ∧ (-1000000000000 ≤ b * d ∧ b * d ≤ 1000000000000) := by
  have := mul_abs h1 h3
  have := mul_abs h1 h4
  have := mul_abs h2 h3
  have := mul_abs h2 h4
  omega

set_option maxHeartbeats 4000000 in
theorem spd_any (a b c d : Int) (w : World) :
    Calls Try.prog 12 #[.agg #[.int .i64 a, .int .i64 b], .agg #[.int .i64 c, .int .i64 d]] w fun e w' => e = .returned (.tuple #[.agg #[.int .i64 (prdT a b c d).1, .int .i64 (prdT a b c d).2.1], .int .i64 (prdT a b c d).2.2]) ∧ Below w.heap.size w w' := by
  cases hv : vldB a b <;> cases hu : vldB c d
  case true.true =>
    cases hs : smallB a b <;> cases ht : smallB c d
    case true.true =>
      have HT := Lib.hid (prdT_ok (a := a) (b := b) (c := c) (d := d) (by rw [hv, hu]; rfl) (by rw [hs, ht]; rfl))
      obtain ⟨sa, sb⟩ := small_t hs hv
      obtain ⟨sc, sd⟩ := small_t ht hu
      obtain ⟨⟨p1, p2⟩, ⟨q1, q2⟩, ⟨r1, r2⟩, ⟨s1, s2⟩⟩ := prd_facts sa sb sc sd
      clear sa sb sc sd
      go_enter Try.func12, Try.ntmps12
      go_wp2_with (first | (go_at_call 45; refine (svl_any _ _ _).mono ?_; rintro e w' ⟨rfl, rfl⟩) | (go_at_call 46; refine (sml_any _ _ _).mono ?_; rintro e w' ⟨rfl, rfl⟩))
      go_quiet (fail)
      go_wp2_with fail
      refine (lre_any _ _ _).mono ?_
      rintro e w1 ⟨rfl, hb⟩
      obtain ⟨hc, hf, hz⟩ := bel_rules hb
      have HB := Lib.hid hb
      clear hb
      go_wp2
      exact bodyPost_ret (v := .tuple #[.agg #[.int .i64 (within (mn4 (a * c) (a * d) (b * c) (b * d)) (mx4 (a * c) (a * d) (b * c) (b * d))).1, .int .i64 (within (mn4 (a * c) (a * d) (b * c) (b * d)) (mx4 (a * c) (a * d) (b * c) (b * d))).2.1], .int .i64 (within (mn4 (a * c) (a * d) (b * c) (b * d)) (mx4 (a * c) (a * d) (b * c) (b * d))).2.2]) (by simp [results, Try.results12, go_sem, hc]) rfl ⟨resT_eq (HT.out), (bel_end (by repeat (first | exact Below.refl _ _ | (refine Below.alloc ?_ (by simp <;> omega) _) | (refine Below.setCell ?_ (by simp <;> omega) _) | (refine Below.drew ?_) | (refine bel_drewN ?_ _))) HB.out).setCell (by simp <;> omega) _ |>.setCell (by simp <;> omega) _⟩
    all_goals
      go_enter Try.func12, Try.ntmps12
      go_wp2_with (first | (go_at_call 45; refine (svl_any _ _ _).mono ?_; rintro e w' ⟨rfl, rfl⟩) | (go_at_call 46; refine (sml_any _ _ _).mono ?_; rintro e w' ⟨rfl, rfl⟩))
      exact bodyPost_ret (v := .tuple #[.agg #[.int .i64 0, .int .i64 0], .int .i64 2]) (by simp [results, Try.results12, go_sem]) rfl ⟨resT_of (prdT_big (by rw [hv, hu]; rfl) (by rw [hs, ht]; rfl)), (by repeat (first | exact Below.refl _ _ | (refine Below.alloc ?_ (by simp <;> omega) _) | (refine Below.setCell ?_ (by simp <;> omega) _) | (refine Below.drew ?_) | (refine bel_drewN ?_ _)))⟩
  all_goals
    go_enter Try.func12, Try.ntmps12
    go_wp2_with (first | (go_at_call 45; refine (svl_any _ _ _).mono ?_; rintro e w' ⟨rfl, rfl⟩) | (go_at_call 46; refine (sml_any _ _ _).mono ?_; rintro e w' ⟨rfl, rfl⟩))
    exact bodyPost_ret (v := .tuple #[.agg #[.int .i64 0, .int .i64 0], .int .i64 1]) (by simp [results, Try.results12, go_sem]) rfl ⟨resT_of (prdT_bad (by rw [hv, hu]; rfl)), (by repeat (first | exact Below.refl _ _ | (refine Below.alloc ?_ (by simp <;> omega) _) | (refine Below.setCell ?_ (by simp <;> omega) _) | (refine Below.drew ?_) | (refine bel_drewN ?_ _)))⟩

set_option maxHeartbeats 4000000 in
theorem ipd_any (a b c d : Int) (w : World) :
    Calls Try.prog 11 #[.agg #[.int .i64 a, .int .i64 b], .agg #[.int .i64 c, .int .i64 d]] w fun e w' => e = .returned (.tuple #[.agg #[.int .i64 (prdT a b c d).1, .int .i64 (prdT a b c d).2.1], .int .i64 (prdT a b c d).2.2]) ∧ Below w.heap.size w w' := by
  cases hv : vldB a b <;> cases hu : vldB c d
  case true.true =>
    have hl := anyLack4 (vldB_t hv).2.2.2.2 (vldB_t hu).2.2.2.2
    cases hst : (smallB a b && smallB c d)
    · rw [hst] at hl
      have HL := Lib.hid hl
      have HT := Lib.hid (prdT_big (a := a) (b := b) (c := c) (d := d) (by rw [hv, hu]; rfl) hst)
      clear hl hst
      go_enter Try.func11, Try.ntmps11
      go_wp2_with (first | (go_at_call 37; refine (vld_any _ _ _).mono ?_; rintro e w' ⟨rfl, rfl⟩))
      refine (cf4_any _ _ a b c d _ _ (ints4_at (by simp) (by simp [go_sem]) (by simp [go_sem]) (by simp [go_sem]) (by simp [go_sem]))).mono ?_
      rw [HL.out]
      rintro e w1 ⟨rfl, hb⟩
      obtain ⟨hc, hf, hz⟩ := bel_rules hb
      have HB := Lib.hid hb
      clear hb
      go_wp2
      exact bodyPost_ret (v := .tuple #[.agg #[.int .i64 0, .int .i64 0], .int .i64 2]) (by simp [results, Try.results11, go_sem, hc]) rfl ⟨resT_of HT.out, (bel_end (by repeat (first | exact Below.refl _ _ | (refine Below.alloc ?_ (by simp <;> omega) _) | (refine Below.setCell ?_ (by simp <;> omega) _) | (refine Below.drew ?_) | (refine bel_drewN ?_ _))) HB.out).setCell (by simp <;> omega) _ |>.setCell (by simp <;> omega) _⟩
    · rw [hst] at hl
      have HL := Lib.hid hl
      have HT := Lib.hid (prdT_ok (a := a) (b := b) (c := c) (d := d) (by rw [hv, hu]; rfl) hst)
      rw [Bool.and_eq_true] at hst
      obtain ⟨sa, sb⟩ := small_t hst.1 hv
      obtain ⟨sc, sd⟩ := small_t hst.2 hu
      clear hl hst
      have HS := Lib.hid (And.intro sa (And.intro sb (And.intro sc sd)))
      clear sa sb sc sd
      go_enter Try.func11, Try.ntmps11
      go_wp2_with (first | (go_at_call 37; refine (vld_any _ _ _).mono ?_; rintro e w' ⟨rfl, rfl⟩))
      refine (cf4_any _ _ a b c d _ _ (ints4_at (by simp) (by simp [go_sem]) (by simp [go_sem]) (by simp [go_sem]) (by simp [go_sem]))).mono ?_
      rw [HL.out]
      rintro e w1 ⟨rfl, hb⟩
      obtain ⟨hc, hf, hz⟩ := bel_rules hb
      have HB := Lib.hid hb
      clear hb
      go_wp2_with fail
      refine (cop_any _ _ _ _ HS.out.1 HS.out.2.1 HS.out.2.2.1 HS.out.2.2.2 _).mono ?_
      rintro e w2 ⟨g, rfl, hz4, hb⟩
      have HZ := Lib.hid hz4
      have HB2 := Lib.hid (HB.out.trans (hb.mono HB.out.size))
      clear hb hc hf hz hz4
      obtain ⟨hc, hf, hz⟩ := bel_rules HB2.out
      go_wp2_with (first | (go_at_call 42; refine (min4_any _ _ _ _ _ _ _ HZ.out).mono ?_; rintro e w' ⟨rfl, rfl⟩) | (go_at_call 43; refine (max4_any _ _ _ _ _ _ _ HZ.out).mono ?_; rintro e w' ⟨rfl, rfl⟩))
      refine (wvs_any _ _ _).mono ?_
      rintro e w3 ⟨rfl, hb⟩
      have HB3 := Lib.hid (HB2.out.trans (hb.mono HB2.out.size))
      clear hb hc hf hz
      obtain ⟨hc, hf, hz⟩ := bel_rules HB3.out
      go_wp2
      exact bodyPost_ret (v := .tuple #[.agg #[.int .i64 (within (mn4 (a * c) (a * d) (b * c) (b * d)) (mx4 (a * c) (a * d) (b * c) (b * d))).1, .int .i64 (within (mn4 (a * c) (a * d) (b * c) (b * d)) (mx4 (a * c) (a * d) (b * c) (b * d))).2.1], .int .i64 (within (mn4 (a * c) (a * d) (b * c) (b * d)) (mx4 (a * c) (a * d) (b * c) (b * d))).2.2]) (by simp [results, Try.results11, go_sem, hc]) rfl ⟨resT_eq (HT.out), (bel_end (by repeat (first | exact Below.refl _ _ | (refine Below.alloc ?_ (by simp <;> omega) _) | (refine Below.setCell ?_ (by simp <;> omega) _) | (refine Below.drew ?_) | (refine bel_drewN ?_ _))) HB3.out).setCell (by simp <;> omega) _ |>.setCell (by simp <;> omega) _⟩
  all_goals
    go_enter Try.func11, Try.ntmps11
    go_wp2_with (first | (go_at_call 37; refine (vld_any _ _ _).mono ?_; rintro e w' ⟨rfl, rfl⟩))
    exact bodyPost_ret (v := .tuple #[.agg #[.int .i64 0, .int .i64 0], .int .i64 1]) (by simp [results, Try.results11, go_sem]) rfl ⟨resT_of (prdT_bad (by rw [hv, hu]; rfl)), (by repeat (first | exact Below.refl _ _ | (refine Below.alloc ?_ (by simp <;> omega) _) | (refine Below.setCell ?_ (by simp <;> omega) _) | (refine Below.drew ?_) | (refine bel_drewN ?_ _)))⟩
end Go.Proofs.Ytfcbagjjpclplaa
