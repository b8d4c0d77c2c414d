/- The integer square root: the greatest integer whose square is at most n. Plain facts. -/
namespace Go.Proofs.Ytcaekheghjnipaa.Num
def rtN : Nat → Nat
  | 0 => 0
  | n + 1 => if (rtN n + 1) * (rtN n + 1) ≤ n + 1 then rtN n + 1 else rtN n
theorem rtN_spec (n : Nat) : rtN n * rtN n ≤ n ∧ n < (rtN n + 1) * (rtN n + 1) := by
  induction n with
  | zero => simp [rtN]
  | succ n ih =>
    obtain ⟨h1, h2⟩ := ih
    unfold rtN
    split
    · rename_i h
      refine ⟨h, ?_⟩
      have : (rtN n + 1 + 1) * (rtN n + 1 + 1) = (rtN n + 1) * (rtN n + 1) + 2 * (rtN n + 1) + 1 := by
        rw [Nat.add_mul, Nat.mul_add]; omega
      omega
    · rename_i h; omega
/-- the root of an integer of at least 0 -/
def rt (n : Int) : Int := (rtN n.toNat : Int)
theorem rt_nonneg (n : Int) : 0 ≤ rt n := by unfold rt; omega
theorem rt_sq (n : Int) (h : 0 ≤ n) : rt n * rt n ≤ n ∧ n < (rt n + 1) * (rt n + 1) := by
  have g := rtN_spec n.toNat
  unfold rt
  have e1 : ((rtN n.toNat : Int) * (rtN n.toNat : Int)) = ((rtN n.toNat * rtN n.toNat : Nat) : Int) := by simp
  have e2 : (((rtN n.toNat : Int) + 1) * ((rtN n.toNat : Int) + 1)) = (((rtN n.toNat + 1) * (rtN n.toNat + 1) : Nat) : Int) := by simp
  rw [e1, e2]; omega
theorem rsq_lt {a b : Int} (ha : 0 ≤ a) (h : a < b) : a * a < b * b := by
  have h1 := Int.mul_le_mul_of_nonneg_left (show a + 1 ≤ b by omega) (show 0 ≤ b by omega)
  have h2 := Int.mul_le_mul_of_nonneg_right (show a ≤ b by omega) ha
  rw [Int.mul_add] at h1
  omega
theorem rsq_le {a b : Int} (ha : 0 ≤ a) (h : a ≤ b) : a * a ≤ b * b :=
  Int.mul_le_mul h h ha (by omega)
theorem rt_unique {n r : Int} (hr : 0 ≤ r) (h1 : r * r ≤ n) (h2 : n < (r + 1) * (r + 1)) : rt n = r := by
  have hn : 0 ≤ n := Int.le_trans (Int.mul_nonneg hr hr) h1
  have g := rt_sq n hn
  have g0 := rt_nonneg n
  rcases Int.lt_trichotomy (rt n) r with h | h | h
  · have := rsq_le (a := rt n + 1) (b := r) (by omega) (by omega); omega
  · exact h
  · have := rsq_le (a := r + 1) (b := rt n) (by omega) (by omega); omega
theorem rt_le {n : Int} (h0 : 0 ≤ n) (h : n ≤ 4000000000000000000) : rt n ≤ 2000000000 := by
  have g := rt_sq n h0
  by_cases c : rt n ≤ 2000000000
  · exact c
  · have := rsq_le (a := 2000000001) (b := rt n) (by omega) (by omega); omega
end Go.Proofs.Ytcaekheghjnipaa.Num
