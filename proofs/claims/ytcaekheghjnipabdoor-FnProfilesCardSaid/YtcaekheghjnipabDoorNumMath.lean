/- Plain facts on integers: quotients rounded down and up, the nearest integer, in Go's own quotient and remainder. No condition but those that each states. -/
namespace Go.Proofs.YtcaekheghjnipabDoor.Num
theorem tdiv_bd (a b : Int) : -(a.natAbs : Int) ≤ a.tdiv b ∧ a.tdiv b ≤ a.natAbs := by
  have h : (a.tdiv b).natAbs = a.natAbs / b.natAbs := Int.natAbs_tdiv a b
  have h2 := Nat.div_le_self a.natAbs b.natAbs
  omega
theorem tmod_sgn (a b : Int) : (0 ≤ a → 0 ≤ a.tmod b) ∧ (a ≤ 0 → a.tmod b ≤ 0) := by
  refine ⟨fun h => Int.tmod_nonneg b h, fun h => ?_⟩
  have h1 := Int.tmod_nonneg (a := -a) b (by omega)
  rw [Int.neg_tmod] at h1; omega
theorem tmod_abs (a b : Int) (hb : b ≠ 0) : (a.tmod b).natAbs < b.natAbs := by
  rw [Int.natAbs_tmod]; exact Nat.mod_lt _ (by omega)
/-- floor division out of Go's quotient and remainder -/
theorem fdiv_same (a b : Int) (h : a.tmod b = 0) : a.fdiv b = a.tdiv b := by
  rw [Int.fdiv_eq_tdiv, if_pos (Int.dvd_of_tmod_eq_zero h)]; omega
theorem fdiv_alike (a b : Int) (hr : a.tmod b ≠ 0) (h : decide (a.tmod b < 0) = decide (b < 0)) : a.fdiv b = a.tdiv b := by
  have s := tmod_sgn a b
  rw [Int.fdiv_eq_tdiv, if_neg (fun h => hr (Int.tmod_eq_zero_of_dvd h))]
  have hh : (a.tmod b < 0 ↔ b < 0) := by simpa using h
  by_cases h0 : 0 ≤ a
  · rw [if_pos h0, if_pos (by have := s.1 h0; omega)]; omega
  · have := s.2 (by omega)
    rw [if_neg h0, if_neg (by omega), Int.sign_eq_neg_one_of_neg (by omega)]; omega
theorem fdiv_unlike (a b : Int) (hb : b ≠ 0) (hr : a.tmod b ≠ 0) (h : decide (a.tmod b < 0) ≠ decide (b < 0)) : a.fdiv b = a.tdiv b - 1 := by
  have s := tmod_sgn a b
  rw [Int.fdiv_eq_tdiv, if_neg (fun h => hr (Int.tmod_eq_zero_of_dvd h))]
  have hh : ¬ (a.tmod b < 0 ↔ b < 0) := by simpa using h
  by_cases h0 : 0 ≤ a
  · rw [if_pos h0, if_neg (by have := s.1 h0; omega)]
  · have := s.2 (by omega)
    rw [if_neg h0, if_pos (by omega), Int.sign_eq_one_of_pos (by omega)]
theorem fmod_rng (a b : Int) : (0 < b → 0 ≤ a - b * a.fdiv b ∧ a - b * a.fdiv b < b) ∧ (b < 0 → b < a - b * a.fdiv b ∧ a - b * a.fdiv b ≤ 0) := by
  have e := Int.mul_fdiv_add_fmod a b
  have ed : a - b * a.fdiv b = a.fmod b := by omega
  rw [ed]
  refine ⟨fun h => ⟨Int.fmod_nonneg_of_pos a h, Int.fmod_lt_of_pos a h⟩, fun h => ?_⟩
  have e2 := Int.mul_fdiv_add_fmod (-a) (-b)
  rw [Int.neg_fdiv_neg, Int.neg_mul] at e2
  have : (-a).fmod (-b) = - a.fmod b := by omega
  have h1 := Int.fmod_nonneg_of_pos (-a) (b := -b) (by omega)
  have h2 := Int.fmod_lt_of_pos (-a) (b := -b) (by omega)
  omega
/-- bounds of the product of the quotient rounded down -/
theorem fdiv_mul_bd (a b : Int) (hb : b ≠ 0) : a - b.natAbs < b * a.fdiv b ∧ b * a.fdiv b < a + b.natAbs := by
  have h := fmod_rng a b
  have : 0 < b ∨ b < 0 := by omega
  rcases this with g | g
  · have := h.1 g; omega
  · have := h.2 g; omega
theorem fdiv_bd (a b : Int) : -(a.natAbs : Int) - 1 ≤ a.fdiv b ∧ a.fdiv b ≤ a.natAbs := by
  have h := tdiv_bd a b
  by_cases hb : b = 0
  · subst hb; simp; omega
  by_cases h0 : a.tmod b = 0
  · rw [fdiv_same a b h0]; omega
  · by_cases h1 : decide (a.tmod b < 0) = decide (b < 0)
    · rw [fdiv_alike a b h0 h1]; omega
    · rw [fdiv_unlike a b hb h0 h1]; omega
/-- rounded up: the negative of the negative rounded down -/
theorem cdiv_eq (a b : Int) (hb : b ≠ 0) : -((-a).fdiv b) = if b * a.fdiv b = a then a.fdiv b else a.fdiv b + 1 := by
  have h := fmod_rng a b
  have g := fmod_rng (-a) b
  generalize hq : a.fdiv b = q at *
  generalize hp : (-a).fdiv b = p at *
  have hs : b * (p + q) = b * p + b * q := by rw [Int.mul_add]
  have key : ∀ k : Int, p + q = k → b * k = b * p + b * q := fun k hk => by rw [← hk, hs]
  by_cases hb0 : 0 < b
  · have h1 := h.1 hb0; have g1 := g.1 hb0
    split
    · -- b q = a: p = -q
      rename_i he
      rcases Int.lt_trichotomy (p + q) 0 with h | h | h
      · have := Int.mul_le_mul_of_nonneg_left (show p + q ≤ -1 by omega) (show (0:Int) ≤ b by omega); omega
      · omega
      · have := Int.mul_le_mul_of_nonneg_left (show 1 ≤ p + q by omega) (show (0:Int) ≤ b by omega); omega
    · rename_i he
      rcases Int.lt_trichotomy (p + q) (-1) with h | h | h
      · have := Int.mul_le_mul_of_nonneg_left (show p + q ≤ -2 by omega) (show (0:Int) ≤ b by omega); omega
      · omega
      · have := Int.mul_le_mul_of_nonneg_left (show 0 ≤ p + q by omega) (show (0:Int) ≤ b by omega); omega
  · have h1 := h.2 (by omega); have g1 := g.2 (by omega)
    split
    · rename_i he
      rcases Int.lt_trichotomy (p + q) 0 with h | h | h
      · have := Int.mul_le_mul_of_nonpos_left (show b ≤ 0 by omega) (show p + q ≤ -1 by omega); omega
      · omega
      · have := Int.mul_le_mul_of_nonpos_left (show b ≤ 0 by omega) (show 1 ≤ p + q by omega); omega
    · rename_i he
      rcases Int.lt_trichotomy (p + q) (-1) with h | h | h
      · have := Int.mul_le_mul_of_nonpos_left (show b ≤ 0 by omega) (show p + q ≤ -2 by omega); omega
      · omega
      · have := Int.mul_le_mul_of_nonpos_left (show b ≤ 0 by omega) (show 0 ≤ p + q by omega); omega
theorem tmod2 (q : Int) : q.tmod 2 = 0 ↔ q % 2 = 0 := by
  have h := Int.mul_tdiv_add_tmod q 2
  have h2 := Int.tmod_two_eq q
  omega
theorem tmod2_t (q : Int) (h : q % 2 = 1) : (q.tmod 2 != 0) = true := by
  have := tmod2 q; simp; omega
theorem tmod2_f (q : Int) (h : q % 2 = 0) : (q.tmod 2 != 0) = false := by
  have := tmod2 q; simp; omega
end Go.Proofs.YtcaekheghjnipabDoor.Num
