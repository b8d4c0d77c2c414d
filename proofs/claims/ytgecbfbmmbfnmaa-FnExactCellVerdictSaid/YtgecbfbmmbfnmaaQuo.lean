/- Contracts of QuotientInterval, the program's and the model's. -/
import Derived.Test.YtgecbfbmmbfnmaaProd
namespace Go.Proofs.Ytgecbfbmmbfnmaa
open Go.ChangeShapes Go.WideShapes Go.ChangeAt Go.RowKit Num
set_option linter.unusedVariables false
attribute [local go_sem] run_min_four run_max_four
section
variable {P : Program} {f : FuncId} {args : Array Value} {w : World} {v : Value}
/-- a callee that leaves its world alone, met in a region that only reads -/
theorem still_call {n : Nat} (h : Calls P f args (w.drewN n) fun e w' => e = .returned v ∧ w.drewN n = w') : Calls P f args (w.drewN n) fun e w2 => e = .returned v ∧ ∃ m, w2 = w.drewN m := by
  refine h.mono ?_
  rintro e w2 ⟨he, rfl⟩
  exact ⟨he, n, rfl⟩
theorem still_call2 {a n : Nat} (h : Calls P f args (w.drewN (a + n)) fun e w' => e = .returned v ∧ w.drewN (a + n) = w') : Calls P f args (w.drewN (a + n)) fun e w2 => e = .returned v ∧ ∃ m, w2 = w.drewN (a + m) := by
  refine h.mono ?_
  rintro e w2 ⟨he, rfl⟩
  exact ⟨he, n, rfl⟩
end
theorem fdiv_in {a c N : Int} (h1 : -N ≤ a) (h2 : a ≤ N) (h0 : ¬ c = 0) : -N ≤ a.fdiv c ∧ a.fdiv c ≤ N := by
  have main : ∀ {a c : Int}, -N ≤ a → a ≤ N → 0 < c → -N ≤ a.fdiv c ∧ a.fdiv c ≤ N := by
    intro a c h1 h2 hc
    have hN : 0 ≤ N := by omega
    have e : N * 1 ≤ N * c := Int.mul_le_mul_of_nonneg_left (by omega) hN
    rw [Int.mul_one] at e
    rw [Int.fdiv_eq_ediv_of_nonneg _ (by omega)]
    refine ⟨Int.le_ediv_of_mul_le hc ?_, Int.ediv_le_of_le_mul hc (by omega)⟩
    rw [Int.neg_mul]; omega
  by_cases hc : 0 < c
  · exact main h1 h2 hc
  · have := main (a := -a) (c := -c) (by omega) (by omega) (by omega)
    rwa [Int.neg_fdiv_neg] at this
theorem cdiv_in {a c N : Int} (h1 : -N ≤ a) (h2 : a ≤ N) (h0 : ¬ c = 0) : -N ≤ cdiv a c ∧ cdiv a c ≤ N := by
  have := fdiv_in (a := -a) (c := c) (N := N) (by omega) (by omega) h0
  unfold cdiv; omega
theorem mn4_in {p q r s N M : Int} (hp : N ≤ p ∧ p ≤ M) (hq : N ≤ q ∧ q ≤ M) (hr : N ≤ r ∧ r ≤ M) (hs : N ≤ s ∧ s ≤ M) : N ≤ mn4 p q r s ∧ mn4 p q r s ≤ M := by
  simp only [mn4, mnTo, List.getD_cons_zero, List.getD_cons_succ]
  repeat' split
  all_goals omega
theorem mx4_in {p q r s N M : Int} (hp : N ≤ p ∧ p ≤ M) (hq : N ≤ q ∧ q ≤ M) (hr : N ≤ r ∧ r ≤ M) (hs : N ≤ s ∧ s ≤ M) : N ≤ mx4 p q r s ∧ mx4 p q r s ≤ M := by
  simp only [mx4, mxTo, List.getD_cons_zero, List.getD_cons_succ]
  repeat' split
  all_goals omega
theorem within_ok {l h : Int} (h1 : -1000000000000 ≤ l ∧ l ≤ 1000000000000) (h2 : -1000000000000 ≤ h ∧ h ≤ 1000000000000) : within l h = (l, h, 0) := by
  unfold within; rw [valB_mk h1.1 h1.2, valB_mk h2.1 h2.2]; rfl
/-- the quotient -/
def quoT (a b c d : Int) : Int × Int × Int := if vldB a b && vldB c d then (if hasB c d 0 then (0, 0, 5) else ((mn4 (a.fdiv c) (a.fdiv d) (b.fdiv c) (b.fdiv d)), (mx4 (cdiv a c) (cdiv a d) (cdiv b c) (cdiv b d)), 0)) else (0, 0, 1)
theorem quoT_ok {a b c d : Int} (h1 : (vldB a b && vldB c d) = true) (h2 : hasB c d 0 = false) : quoT a b c d = ((mn4 (a.fdiv c) (a.fdiv d) (b.fdiv c) (b.fdiv d)), (mx4 (cdiv a c) (cdiv a d) (cdiv b c) (cdiv b d)), 0) := by unfold quoT; rw [if_pos h1, h2]; rfl
theorem quoT_zero {a b c d : Int} (h1 : (vldB a b && vldB c d) = true) (h2 : hasB c d 0 = true) : quoT a b c d = (0, 0, 5) := by unfold quoT; rw [if_pos h1, if_pos h2]
theorem quoT_bad {a b c d : Int} (h1 : (vldB a b && vldB c d) = false) : quoT a b c d = (0, 0, 1) := by unfold quoT; rw [h1]; rfl
theorem has_dec {c d : Int} (h : c ≤ d) : (hasB c d 0 = true → c ≤ 0 ∧ 0 ≤ d) ∧ (hasB c d 0 = false → ¬ c = 0 ∧ ¬ d = 0 ∧ (0 < c ∨ (c < 0 ∧ d < 0))) := by
  unfold hasB
  by_cases h1 : c ≤ 0 <;> by_cases h2 : 0 ≤ d <;> simp [h1, h2] <;> omega
theorem quoT_within {a b c d : Int} (h1 : vldB a b = true) (h2 : vldB c d = true) (h3 : hasB c d 0 = false) : quoT a b c d = within (mn4 (a.fdiv c) (a.fdiv d) (b.fdiv c) (b.fdiv d)) (mx4 (cdiv a c) (cdiv a d) (cdiv b c) (cdiv b d)) := by
  obtain ⟨a1, a2, b1, b2, ab⟩ := vldB_t h1
  obtain ⟨c1, c2, d1, d2, cd⟩ := vldB_t h2
  obtain ⟨c0, d0, _⟩ := (has_dec cd).2 h3
  rw [quoT_ok (by rw [h1, h2]; rfl) h3, within_ok]
  · exact mn4_in (fdiv_in a1 a2 c0) (fdiv_in a1 a2 d0) (fdiv_in b1 b2 c0) (fdiv_in b1 b2 d0)
  · exact mx4_in (cdiv_in a1 a2 c0) (cdiv_in a1 a2 d0) (cdiv_in b1 b2 c0) (cdiv_in b1 b2 d0)

set_option maxHeartbeats 4000000 in
theorem dvb_any (a b c d : Int) (a1 : -9000000000000000000 ≤ a) (a2 : a ≤ 9000000000000000000) (b1 : -9000000000000000000 ≤ b) (b2 : b ≤ 9000000000000000000) (c1 : -9000000000000000000 ≤ c) (c2 : c ≤ 9000000000000000000) (d1 : -9000000000000000000 ≤ d) (d2 : d ≤ 9000000000000000000) (c0 : ¬ c = 0) (d0 : ¬ d = 0) (w : World) :
    Calls Try.prog 107 #[.agg #[.int .i64 a, .int .i64 b], .agg #[.int .i64 c, .int .i64 d]] w fun e w' => e = .returned (.agg #[.int .i64 (mn4 (a.fdiv c) (a.fdiv d) (b.fdiv c) (b.fdiv d)), .int .i64 (mx4 (cdiv a c) (cdiv a d) (cdiv b c) (cdiv b d))]) ∧ Below w.heap.size w w' := by
  go_enter Try.func107, Try.ntmps107
  go_wp2_with fail
  refine (cof_any _ _ _ _ (by omega) (by omega) (by omega) (by omega) (by omega) (by omega) (by omega) (by omega) c0 d0 _).mono ?_
  rintro e w1 ⟨g, rfl, hz4, hb⟩
  have HZ := Lib.hid hz4
  have HB := Lib.hid hb
  clear hb hz4
  obtain ⟨hc, hf, hz⟩ := bel_rules HB.out
  go_wp2_with (go_at_call 109; refine (min4_any _ _ _ _ _ _ _ HZ.out).mono ?_; rintro e w' ⟨rfl, rfl⟩)
  refine (coc_any _ _ _ _ (by omega) (by omega) (by omega) (by omega) (by omega) (by omega) (by omega) (by omega) c0 d0 _).mono ?_
  rintro e w2 ⟨g2, rfl, hz4, hb⟩
  have HZ2 := Lib.hid hz4
  have HB2 := Lib.hid (HB.out.trans (hb.mono HB.out.size))
  clear hb hc hf hz hz4
  obtain ⟨hc, hf, hz⟩ := bel_rules HB2.out
  go_wp2_with (go_at_call 112; refine (max4_any _ _ _ _ _ _ _ HZ2.out).mono ?_; rintro e w' ⟨rfl, rfl⟩)
  exact bodyPost_ret (v := .agg #[.int .i64 (mn4 (a.fdiv c) (a.fdiv d) (b.fdiv c) (b.fdiv d)), .int .i64 (mx4 (cdiv a c) (cdiv a d) (cdiv b c) (cdiv b d))]) (by simp [results, Try.results107, go_sem, hc]) rfl ⟨rfl, (bel_end (by repeat (first | exact Below.refl _ _ | (refine Below.alloc ?_ (by simp <;> omega) _) | (refine Below.setCell ?_ (by simp <;> omega) _) | (refine Below.drew ?_) | (refine bel_drewN ?_ _))) HB2.out).setCell (by simp <;> omega) _ |>.setCell (by simp <;> omega) _⟩

end Go.Proofs.Ytgecbfbmmbfnmaa
