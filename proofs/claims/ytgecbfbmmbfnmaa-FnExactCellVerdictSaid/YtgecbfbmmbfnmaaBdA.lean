/- A way to and fro on one side of a source: what it can add up to. -/
import Derived.Test.YtgecbfbmmbfnmaaRyM
namespace Go.Proofs.Ytgecbfbmmbfnmaa
set_option linter.unusedVariables false
/-- one step of a way: how far out, outwards or not, before and behind; what it adds at most -/
def StpOk (wt : Int → Int) (q : Int) (o : Bool) (q' : Int) (o' : Bool) (d : Int) : Prop :=
  (o = true ∧ o' = true ∧ q' = q + 1 ∧ d ≤ wt q) ∨ (o = false ∧ o' = false ∧ q' = q - 1 ∧ d ≤ wt (q - 1)) ∨ (o = true ∧ o' = false ∧ q' = q ∧ d ≤ wt q) ∨ (o = false ∧ o' = true ∧ q' = q ∧ d ≤ 0 ∧ q ≤ 0)
/-- weights, and what they add up to ahead of a place -/
structure Wts (wt D : Int → Int) (U : Int) : Prop where
  w0 : ∀ q, 0 ≤ wt q
  wz : ∀ q, q ≤ 0 → wt q = 0
  dz : ∀ q, q ≤ 1 → D q = 0
  ds : ∀ q, 1 ≤ q → D (q + 1) = D q + wt q
  d0 : ∀ q, 0 ≤ D q
  up : ∀ q, D q + wt q ≤ U
def pot (D : Int → Int) (U q : Int) (o : Bool) : Int :=
  if 1 ≤ q then (if o then 3 * D q - U * q else (if U * (2 - q) ≤ 3 * U - 3 * D q - U * q then 3 * U - 3 * D q - U * q else U * (2 - q))) else (if o then 0 else U)
theorem Wts.u0 {wt D : Int → Int} {U : Int} (h : Wts wt D U) : 0 ≤ U := by
  have h1 := h.up 0
  have h2 := h.d0 0
  have h3 := h.w0 0
  omega
theorem pot_o1 {D : Int → Int} {U q : Int} (hq : 1 ≤ q) : pot D U q true = 3 * D q - U * q := by unfold pot; rw [if_pos hq, if_pos rfl]
theorem pot_i1 {D : Int → Int} {U q : Int} (hq : 1 ≤ q) : pot D U q false = if U * (2 - q) ≤ 3 * U - 3 * D q - U * q then 3 * U - 3 * D q - U * q else U * (2 - q) := by unfold pot; rw [if_pos hq, if_neg (by simp)]
theorem pot_o0 {D : Int → Int} {U q : Int} (hq : ¬ 1 ≤ q) : pot D U q true = 0 := by unfold pot; rw [if_neg hq, if_pos rfl]
theorem pot_i0 {D : Int → Int} {U q : Int} (hq : ¬ 1 ≤ q) : pot D U q false = U := by unfold pot; rw [if_neg hq, if_neg (by simp)]
theorem pot_le {wt D : Int → Int} {U : Int} (h : Wts wt D U) (q : Int) (o : Bool) : pot D U q o ≤ 2 * U := by
  have h0 := h.u0
  have h1 := h.up q
  have h2 := h.d0 q
  have h3 := h.w0 q
  have e1 : U * (2 - q) = U * 2 - U * q := Int.mul_sub _ _ _
  by_cases hq : 1 ≤ q
  · have g1 := Int.mul_le_mul_of_nonneg_left hq h0
    rw [Int.mul_one] at g1
    cases o
    · rw [pot_i1 hq]
      split <;> omega
    · rw [pot_o1 hq]
      by_cases h5 : q = 1
      · have := h.dz q (by omega)
        omega
      · have g2 := Int.mul_le_mul_of_nonneg_left (show 2 ≤ q by omega) h0
        omega
  · cases o
    · rw [pot_i0 hq]; omega
    · rw [pot_o0 hq]; omega
theorem pot_step {wt D : Int → Int} {U q q' d : Int} {o o' : Bool} (h : Wts wt D U) (s : StpOk wt q o q' o' d) : 3 * d + pot D U q o ≤ U + pot D U q' o' := by
  have h0 := h.u0
  rcases s with ⟨rfl, rfl, rfl, hd⟩ | ⟨rfl, rfl, rfl, hd⟩ | ⟨rfl, rfl, rfl, hd⟩ | ⟨rfl, rfl, rfl, hd, hq⟩
  · have e1 : U * (q + 1) = U * q + U := by rw [Int.mul_add, Int.mul_one]
    by_cases hq : 1 ≤ q
    · have := h.ds q hq
      rw [pot_o1 hq, pot_o1 (show 1 ≤ q + 1 by omega)]
      omega
    · have h1 := h.wz q (by omega)
      rw [pot_o0 hq]
      by_cases hq' : 1 ≤ q + 1
      · have h2 := h.dz (q + 1) (by omega)
        have h3 : q + 1 = 1 := by omega
        rw [pot_o1 hq', h2, h3, Int.mul_one]
        omega
      · rw [pot_o0 hq']
        omega
  · have e0 : U * (q - 1) = U * q - U := by rw [Int.mul_sub, Int.mul_one]
    have e1 : U * (2 - q) = U * 2 - U * q := Int.mul_sub _ _ _
    have e2 : U * (2 - (q - 1)) = U * 3 - U * q := by rw [show 2 - (q - 1) = 3 - q by omega, Int.mul_sub]
    by_cases hq : 1 ≤ q - 1
    · have h1 := h.ds (q - 1) hq
      rw [show q - 1 + 1 = q by omega] at h1
      have h2 := h.up (q - 1)
      have h3 := h.d0 (q - 1)
      have h4 := h.w0 (q - 1)
      rw [pot_i1 (show 1 ≤ q by omega), pot_i1 hq]
      split <;> split <;> omega
    · have h1 := h.wz (q - 1) (by omega)
      rw [pot_i0 hq]
      by_cases hq' : 1 ≤ q
      · have h2 := h.dz q (by omega)
        have h3 : q = 1 := by omega
        have e4 : U * q = U := by rw [h3, Int.mul_one]
        rw [pot_i1 hq', h2]
        split <;> omega
      · rw [pot_i0 hq']
        omega
  · have e1 : U * (2 - q') = U * 2 - U * q' := Int.mul_sub _ _ _
    have h1 := h.up q'
    have h2 := h.d0 q'
    have h3 := h.w0 q'
    by_cases hq : 1 ≤ q'
    · rw [pot_o1 hq, pot_i1 hq]
      split <;> omega
    · have h4 := h.wz q' (by omega)
      rw [pot_o0 hq, pot_i0 hq]
      omega
  · rw [pot_i0 (by omega), pot_o0 (by omega)]
    omega
/-- the sum of the first numbers -/
def sumTo (f : Nat → Int) : Nat → Int
  | 0 => 0
  | n + 1 => sumTo f n + f n
theorem sumTo_nn {f : Nat → Int} (h : ∀ j, 0 ≤ f j) : ∀ n, 0 ≤ sumTo f n
  | 0 => Int.le_refl _
  | n + 1 => by
    have := sumTo_nn h n
    have := h n
    show 0 ≤ sumTo f n + f n
    omega
theorem sumTo_up {f : Nat → Int} {M : Nat} (h : ∀ j, 0 ≤ f j) (hz : ∀ j, M ≤ j → f j = 0) : ∀ n, sumTo f n ≤ sumTo f M := by
  have h1 : ∀ k n, sumTo f n ≤ sumTo f (n + k) := by
    intro k
    induction k with
    | zero => intro n; exact Int.le_refl _
    | succ k ih =>
      intro n
      have h2 := ih n
      have h3 := h (n + k)
      show sumTo f n ≤ sumTo f (n + k) + f (n + k)
      omega
  have h2 : ∀ k, sumTo f (M + k) = sumTo f M := by
    intro k
    induction k with
    | zero => rfl
    | succ k ih =>
      have h3 := hz (M + k) (by omega)
      show sumTo f (M + k) + f (M + k) = _
      omega
  intro n
  rcases Nat.le_total n M with l | l
  · have := h1 (M - n) n
    rwa [show n + (M - n) = M by omega] at this
  · have := h2 (n - M)
    rw [show M + (n - M) = n by omega] at this
    omega
theorem Wts.of {f : Nat → Int} {M : Nat} (h0 : f 0 = 0) (h : ∀ j, 0 ≤ f j) (hz : ∀ j, M ≤ j → f j = 0) : Wts (fun q => f q.toNat) (fun q => sumTo f q.toNat) (sumTo f M) := by
  refine ⟨fun q => h _, fun q hq => ?_, fun q hq => ?_, fun q hq => ?_, fun q => sumTo_nn h _, fun q => sumTo_up h hz (q.toNat + 1)⟩
  · show f q.toNat = 0
    rw [show q.toNat = 0 by omega, h0]
  · show sumTo f q.toNat = 0
    rcases (by omega : q.toNat = 0 ∨ q.toNat = 1) with e | e
    · rw [e]; rfl
    · rw [e]; show 0 + f 0 = 0; omega
  · show sumTo f (q + 1).toNat = sumTo f q.toNat + f q.toNat
    rw [show (q + 1).toNat = q.toNat + 1 by omega]; rfl
end Go.Proofs.Ytgecbfbmmbfnmaa
