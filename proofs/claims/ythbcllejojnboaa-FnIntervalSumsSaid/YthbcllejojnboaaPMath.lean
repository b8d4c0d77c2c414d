/- Plain facts: products and quotients of numbers of intervals lie between the least and the greatest of the four corners; two cells of a block, kept from world to world. -/
import Derived.Test.YthbcllejojnboaaQuo
import Derived.Test.YthbcllejojnboaaDrw
import Derived.Test.YthbcllejojnboaaPair
namespace Go.Proofs.Ythbcllejojnboaa
open Go.ChangeShapes Go.WideShapes Go.ChangeAt Go.RowKit Num
set_option linter.unusedVariables false
theorem lin_in {a b k m : Int} (h1 : a ≤ k) (h2 : k ≤ b) : min (a * m) (b * m) ≤ k * m ∧ k * m ≤ max (a * m) (b * m) := by
  by_cases hn : 0 ≤ m
  · have := Int.mul_le_mul_of_nonneg_right h1 hn
    have := Int.mul_le_mul_of_nonneg_right h2 hn
    omega
  · have := Int.mul_le_mul_of_nonpos_right h1 (show m ≤ 0 by omega)
    have := Int.mul_le_mul_of_nonpos_right h2 (show m ≤ 0 by omega)
    omega
theorem mn4_le (p q r s : Int) : mn4 p q r s ≤ p ∧ mn4 p q r s ≤ q ∧ mn4 p q r s ≤ r ∧ mn4 p q r s ≤ s := by
  simp only [mn4, mnTo, List.getD_cons_zero, List.getD_cons_succ]
  repeat' split
  all_goals omega
theorem mx4_ge (p q r s : Int) : p ≤ mx4 p q r s ∧ q ≤ mx4 p q r s ∧ r ≤ mx4 p q r s ∧ s ≤ mx4 p q r s := by
  simp only [mx4, mxTo, List.getD_cons_zero, List.getD_cons_succ]
  repeat' split
  all_goals omega
theorem prod_in {a b c d k m : Int} (h1 : a ≤ k) (h2 : k ≤ b) (h3 : c ≤ m) (h4 : m ≤ d) : mn4 (a * c) (a * d) (b * c) (b * d) ≤ k * m ∧ k * m ≤ mx4 (a * c) (a * d) (b * c) (b * d) := by
  have e1 := lin_in (m := m) h1 h2
  have e2 := lin_in (m := a) h3 h4
  have e3 := lin_in (m := b) h3 h4
  rw [Int.mul_comm c a, Int.mul_comm d a, Int.mul_comm m a] at e2
  rw [Int.mul_comm c b, Int.mul_comm d b, Int.mul_comm m b] at e3
  have l := mn4_le (a * c) (a * d) (b * c) (b * d)
  have g := mx4_ge (a * c) (a * d) (b * c) (b * d)
  omega
theorem le_fdiv_pos {q a m : Int} (hm : 0 < m) : q ≤ a.fdiv m ↔ q * m ≤ a := by
  rw [Int.fdiv_eq_ediv_of_nonneg _ (by omega)]
  exact Int.le_ediv_iff_mul_le hm
theorem le_fdiv_neg {q a m : Int} (hm : m < 0) : q ≤ a.fdiv m ↔ a ≤ q * m := by
  have h := le_fdiv_pos (q := q) (a := -a) (m := -m) (by omega)
  rw [Int.neg_fdiv_neg, Int.mul_neg] at h
  rw [h]
  omega
theorem quo_lo {a b c d k m Q : Int} (h1 : a ≤ k) (h2 : k ≤ b) (h3 : c ≤ m) (h4 : m ≤ d) (hs : 0 < c ∨ d < 0) (q1 : Q ≤ a.fdiv c) (q2 : Q ≤ a.fdiv d) (q3 : Q ≤ b.fdiv c) (q4 : Q ≤ b.fdiv d) : Q ≤ k.fdiv m := by
  have e := lin_in (m := Q) h3 h4
  rw [Int.mul_comm c Q, Int.mul_comm d Q, Int.mul_comm m Q] at e
  rcases hs with hs | hs
  · rw [le_fdiv_pos (by omega)] at q1 q2 q3 q4 ⊢
    omega
  · rw [le_fdiv_neg (by omega)] at q1 q2 q3 q4 ⊢
    omega
theorem quo_in {a b c d k m : Int} (h1 : a ≤ k) (h2 : k ≤ b) (h3 : c ≤ m) (h4 : m ≤ d) (hs : 0 < c ∨ d < 0) :
    mn4 (a.fdiv c) (a.fdiv d) (b.fdiv c) (b.fdiv d) ≤ k.fdiv m ∧ cdiv k m ≤ mx4 (cdiv a c) (cdiv a d) (cdiv b c) (cdiv b d) := by
  have l := mn4_le (a.fdiv c) (a.fdiv d) (b.fdiv c) (b.fdiv d)
  have g := mx4_ge (cdiv a c) (cdiv a d) (cdiv b c) (cdiv b d)
  refine ⟨quo_lo h1 h2 h3 h4 hs l.1 l.2.1 l.2.2.1 l.2.2.2, ?_⟩
  generalize mx4 (cdiv a c) (cdiv a d) (cdiv b c) (cdiv b d) = M at *
  unfold cdiv at *
  have := quo_lo (a := -b) (b := -a) (c := c) (d := d) (k := -k) (m := m) (Q := -M) (by omega) (by omega) h3 h4 hs (by omega) (by omega) (by omega) (by omega)
  omega

theorem prdT_0 {a b c d : Int} (h : (prdT a b c d).2.2 = 0) : (a ≤ b ∧ c ≤ d) ∧ ((-1000000 ≤ a ∧ b ≤ 1000000) ∧ (-1000000 ≤ c ∧ d ≤ 1000000)) ∧ prdT a b c d = (mn4 (a * c) (a * d) (b * c) (b * d), mx4 (a * c) (a * d) (b * c) (b * d), 0) ∧ valB (prdT a b c d).1 = true ∧ valB (prdT a b c d).2.1 = true := by
  cases hv : (vldB a b && vldB c d)
  · rw [prdT_bad hv] at h; cases h
  · cases hs : (smallB a b && smallB c d)
    · rw [prdT_big hv hs] at h; cases h
    · rw [prdT_ok hv hs] at h ⊢
      rw [Bool.and_eq_true] at hv hs
      have v1 := vldB_t hv.1
      have v2 := vldB_t hv.2
      have s1 := hs.1
      have s2 := hs.2
      unfold smallB at s1 s2
      simp only [Bool.and_eq_true, decide_eq_true_eq] at s1 s2
      unfold within at h ⊢
      split at h
      · rename_i hw
        rw [if_pos hw]
        rw [Bool.and_eq_true] at hw
        exact ⟨⟨v1.2.2.2.2, v2.2.2.2.2⟩, ⟨s1, s2⟩, rfl, hw.1, hw.2⟩
      · cases h
theorem quoT_0 {a b c d : Int} (h : (quoT a b c d).2.2 = 0) : (-1000000000000 ≤ a ∧ a ≤ b ∧ b ≤ 1000000000000) ∧ (-1000000000000 ≤ c ∧ c ≤ d ∧ d ≤ 1000000000000) ∧ (0 < c ∨ d < 0) ∧ quoT a b c d = (mn4 (a.fdiv c) (a.fdiv d) (b.fdiv c) (b.fdiv d), mx4 (cdiv a c) (cdiv a d) (cdiv b c) (cdiv b d), 0) := by
  cases hv : (vldB a b && vldB c d)
  · rw [quoT_bad hv] at h; cases h
  · cases hs : hasB c d 0
    · rw [quoT_ok hv hs]
      rw [Bool.and_eq_true] at hv
      have v1 := vldB_t hv.1
      have v2 := vldB_t hv.2
      have h0 := (has_dec v2.2.2.2.2).2 hs
      exact ⟨⟨v1.1, v1.2.2.2.2, v1.2.2.2.1⟩, ⟨v2.1, v2.2.2.2.2, v2.2.2.2.1⟩, by omega, rfl⟩
    · rw [quoT_zero hv hs] at h; cases h
end Go.Proofs.Ythbcllejojnboaa
