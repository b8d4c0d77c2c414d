/- Plain facts on integers: quotients rounded down and up, the nearest integer, in Go's own quotient and remainder. No condition but those that each states. Plain facts on integers: greatest common divisors, fractions in lowest terms. No condition but those that each states. Plain facts on directions: three numbers with the first squared and the second squared adding up to the third squared, in lowest terms. No condition but those that each states. The integer square root: the greatest integer whose square is at most n. Plain facts. -/

namespace Go.Proofs.Ytlahgdhofakinaa.Num
theorem tdiv_bd (a b : Int) : -(a.natAbs : Int) ≤ a.tdiv b ∧ a.tdiv b ≤ a.natAbs := by
  have h : (a.tdiv b).natAbs = a.natAbs / b.natAbs := Int.natAbs_tdiv a b
  have h2 := Nat.div_le_self a.natAbs b.natAbs
  omega
theorem tmod_sgn (a b : Int) : (0 ≤ a → 0 ≤ a.tmod b) ∧ (a ≤ 0 → a.tmod b ≤ 0) := by
  refine ⟨fun h => Int.tmod_nonneg b h, fun h => ?_⟩
  have h1 := Int.tmod_nonneg (a := -a) b (by omega)
  rw [Int.neg_tmod] at h1; omega
theorem tmod_abs (a b : Int) (hb : b ≠ 0) : (a.tmod b).natAbs < b.natAbs := by
  rw [Int.natAbs_tmod]; exact Nat.mod_lt _ (by omega)
/-- floor division out of Go's quotient and remainder -/
theorem fdiv_same (a b : Int) (h : a.tmod b = 0) : a.fdiv b = a.tdiv b := by
  rw [Int.fdiv_eq_tdiv, if_pos (Int.dvd_of_tmod_eq_zero h)]; omega
theorem fdiv_alike (a b : Int) (hr : a.tmod b ≠ 0) (h : decide (a.tmod b < 0) = decide (b < 0)) : a.fdiv b = a.tdiv b := by
  have s := tmod_sgn a b
  rw [Int.fdiv_eq_tdiv, if_neg (fun h => hr (Int.tmod_eq_zero_of_dvd h))]
  have hh : (a.tmod b < 0 ↔ b < 0) := by simpa using h
  by_cases h0 : 0 ≤ a
  · rw [if_pos h0, if_pos (by have := s.1 h0; omega)]; omega
  · have := s.2 (by omega)
    rw [if_neg h0, if_neg (by omega), Int.sign_eq_neg_one_of_neg (by omega)]; omega
theorem fdiv_unlike (a b : Int) (hb : b ≠ 0) (hr : a.tmod b ≠ 0) (h : decide (a.tmod b < 0) ≠ decide (b < 0)) : a.fdiv b = a.tdiv b - 1 := by
  have s := tmod_sgn a b
  rw [Int.fdiv_eq_tdiv, if_neg (fun h => hr (Int.tmod_eq_zero_of_dvd h))]
  have hh : ¬ (a.tmod b < 0 ↔ b < 0) := by simpa using h
  by_cases h0 : 0 ≤ a
  · rw [if_pos h0, if_neg (by have := s.1 h0; omega)]
  · have := s.2 (by omega)
    rw [if_neg h0, if_pos (by omega), Int.sign_eq_one_of_pos (by omega)]
theorem fmod_rng (a b : Int) : (0 < b → 0 ≤ a - b * a.fdiv b ∧ a - b * a.fdiv b < b) ∧ (b < 0 → b < a - b * a.fdiv b ∧ a - b * a.fdiv b ≤ 0) := by
  have e := Int.mul_fdiv_add_fmod a b
  have ed : a - b * a.fdiv b = a.fmod b := by omega
  rw [ed]
  refine ⟨fun h => ⟨Int.fmod_nonneg_of_pos a h, Int.fmod_lt_of_pos a h⟩, fun h => ?_⟩
  have e2 := Int.mul_fdiv_add_fmod (-a) (-b)
  rw [Int.neg_fdiv_neg, Int.neg_mul] at e2
  have : (-a).fmod (-b) = - a.fmod b := by omega
  have h1 := Int.fmod_nonneg_of_pos (-a) (b := -b) (by omega)
  have h2 := Int.fmod_lt_of_pos (-a) (b := -b) (by omega)
  omega
/-- bounds of the product of the quotient rounded down -/
theorem fdiv_mul_bd (a b : Int) (hb : b ≠ 0) : a - b.natAbs < b * a.fdiv b ∧ b * a.fdiv b < a + b.natAbs := by
  have h := fmod_rng a b
  have : 0 < b ∨ b < 0 := by omega
  rcases this with g | g
  · have := h.1 g; omega
  · have := h.2 g; omega
theorem fdiv_bd (a b : Int) : -(a.natAbs : Int) - 1 ≤ a.fdiv b ∧ a.fdiv b ≤ a.natAbs := by
  have h := tdiv_bd a b
  by_cases hb : b = 0
  · subst hb; simp; omega
  by_cases h0 : a.tmod b = 0
  · rw [fdiv_same a b h0]; omega
  · by_cases h1 : decide (a.tmod b < 0) = decide (b < 0)
    · rw [fdiv_alike a b h0 h1]; omega
    · rw [fdiv_unlike a b hb h0 h1]; omega
/-- rounded up: the negative of the negative rounded down -/
theorem cdiv_eq (a b : Int) (hb : b ≠ 0) : -((-a).fdiv b) = if b * a.fdiv b = a then a.fdiv b else a.fdiv b + 1 := by
  have h := fmod_rng a b
  have g := fmod_rng (-a) b
  generalize hq : a.fdiv b = q at *
  generalize hp : (-a).fdiv b = p at *
  have hs : b * (p + q) = b * p + b * q := by rw [Int.mul_add]
  have key : ∀ k : Int, p + q = k → b * k = b * p + b * q := fun k hk => by rw [← hk, hs]
  by_cases hb0 : 0 < b
  · have h1 := h.1 hb0; have g1 := g.1 hb0
    split
    · -- b q = a: p = -q
      rename_i he
      rcases Int.lt_trichotomy (p + q) 0 with h | h | h
      · have := Int.mul_le_mul_of_nonneg_left (show p + q ≤ -1 by omega) (show (0:Int) ≤ b by omega); omega
      · omega
      · have := Int.mul_le_mul_of_nonneg_left (show 1 ≤ p + q by omega) (show (0:Int) ≤ b by omega); omega
    · rename_i he
      rcases Int.lt_trichotomy (p + q) (-1) with h | h | h
      · have := Int.mul_le_mul_of_nonneg_left (show p + q ≤ -2 by omega) (show (0:Int) ≤ b by omega); omega
      · omega
      · have := Int.mul_le_mul_of_nonneg_left (show 0 ≤ p + q by omega) (show (0:Int) ≤ b by omega); omega
  · have h1 := h.2 (by omega); have g1 := g.2 (by omega)
    split
    · rename_i he
      rcases Int.lt_trichotomy (p + q) 0 with h | h | h
      · have := Int.mul_le_mul_of_nonpos_left (show b ≤ 0 by omega) (show p + q ≤ -1 by omega); omega
      · omega
      · have := Int.mul_le_mul_of_nonpos_left (show b ≤ 0 by omega) (show 1 ≤ p + q by omega); omega
    · rename_i he
      rcases Int.lt_trichotomy (p + q) (-1) with h | h | h
      · have := Int.mul_le_mul_of_nonpos_left (show b ≤ 0 by omega) (show p + q ≤ -2 by omega); omega
      · omega
      · have := Int.mul_le_mul_of_nonpos_left (show b ≤ 0 by omega) (show 0 ≤ p + q by omega); omega
theorem tmod2 (q : Int) : q.tmod 2 = 0 ↔ q % 2 = 0 := by
  have h := Int.mul_tdiv_add_tmod q 2
  have h2 := Int.tmod_two_eq q
  omega
theorem tmod2_t (q : Int) (h : q % 2 = 1) : (q.tmod 2 != 0) = true := by
  have := tmod2 q; simp; omega
theorem tmod2_f (q : Int) (h : q % 2 = 0) : (q.tmod 2 != 0) = false := by
  have := tmod2 q; simp; omega
end Go.Proofs.Ytlahgdhofakinaa.Num
namespace Go.Proofs.Ytlahgdhofakinaa.Num
/-- the greatest common divisor -/
def gc (a b : Int) : Int := (Int.gcd a b : Int)
theorem gc_step (a b : Int) : gc b (a.tmod b) = gc a b := by
  unfold gc Int.gcd
  rw [Int.natAbs_tmod, Nat.gcd_comm b.natAbs, ← Nat.gcd_rec, Nat.gcd_comm]
theorem gc_zero (a : Int) : gc a 0 = (a.natAbs : Int) := by unfold gc Int.gcd; simp
theorem gc_abs (a b : Int) : gc (a.natAbs : Int) (b.natAbs : Int) = gc a b := by unfold gc Int.gcd; simp
theorem gc_neg (a b : Int) : gc (-a) (-b) = gc a b := by unfold gc Int.gcd; simp
theorem gc_pos {a b : Int} (h : ¬ b = 0) : 0 < gc a b := by
  have : Int.gcd a b ≠ 0 := fun e => h (Int.gcd_eq_zero_iff.1 e).2
  unfold gc; omega
theorem gc_le {a b : Int} (h : ¬ b = 0) : gc a b ≤ (b.natAbs : Int) := by
  have := Nat.le_of_dvd (by omega) (Nat.gcd_dvd_right a.natAbs b.natAbs)
  have e : gc a b = ((Nat.gcd a.natAbs b.natAbs : Nat) : Int) := rfl
  omega
/-- the divisor that makes the second term positive -/
def sgc (n d : Int) : Int := if d < 0 then -(gc n d) else gc n d
def lowN (n d : Int) : Int := n.tdiv (sgc n d)
def lowD (n d : Int) : Int := d.tdiv (sgc n d)
theorem sgc_ne {n d : Int} (h : ¬ d = 0) : ¬ sgc n d = 0 := by
  have := gc_pos (a := n) h
  unfold sgc; split <;> omega
theorem sgc_dvd (n d : Int) : sgc n d ∣ n ∧ sgc n d ∣ d := by
  have a : gc n d ∣ n := Int.gcd_dvd_left n d
  have b : gc n d ∣ d := Int.gcd_dvd_right n d
  unfold sgc; split
  · exact ⟨Int.neg_dvd.2 a, Int.neg_dvd.2 b⟩
  · exact ⟨a, b⟩
theorem low_mul (n d : Int) : sgc n d * lowN n d = n ∧ sgc n d * lowD n d = d :=
  ⟨Int.mul_tdiv_cancel' (sgc_dvd n d).1, Int.mul_tdiv_cancel' (sgc_dvd n d).2⟩
theorem low_pos {n d : Int} (h : ¬ d = 0) : 0 < lowD n d := by
  have e := (low_mul n d).2
  have g := gc_pos (a := n) h
  unfold sgc at e
  rcases Int.lt_trichotomy (lowD n d) 0 with l | l | l
  · split at e
    · rename_i hd
      have := Int.mul_nonneg_of_nonpos_of_nonpos (show -(gc n d) ≤ 0 by omega) (show lowD n d ≤ 0 by omega); omega
    · have := Int.mul_le_mul_of_nonneg_left (show lowD n d ≤ -1 by omega) (show 0 ≤ gc n d by omega); omega
  · rw [l, Int.mul_zero] at e; omega
  · exact l
theorem low_cop {n d : Int} (h : ¬ d = 0) : gc (lowN n d) (lowD n d) = 1 := by
  have g := gc_pos (a := n) h
  have es : (sgc n d).natAbs = Nat.gcd n.natAbs d.natAbs := by
    have e : gc n d = ((Nat.gcd n.natAbs d.natAbs : Nat) : Int) := rfl
    unfold sgc; split <;> omega
  have h1 : (lowN n d).natAbs = n.natAbs / Nat.gcd n.natAbs d.natAbs := by rw [← es]; exact Int.natAbs_tdiv _ _
  have h2 : (lowD n d).natAbs = d.natAbs / Nat.gcd n.natAbs d.natAbs := by rw [← es]; exact Int.natAbs_tdiv _ _
  have : Int.gcd (lowN n d) (lowD n d) = 1 := by
    unfold Int.gcd
    rw [h1, h2]
    exact Nat.coprime_div_gcd_div_gcd (by rw [← es]; have := sgc_ne (n := n) h; omega)
  show ((Int.gcd (lowN n d) (lowD n d) : Nat) : Int) = 1
  rw [this]; rfl
theorem cop_dvd {p q x : Int} (h : gc p q = 1) (e : q ∣ p * x) : q ∣ x := by
  have hc : Nat.Coprime q.natAbs p.natAbs := by
    have : Int.gcd p q = 1 := by unfold gc at h; omega
    unfold Nat.Coprime; rw [Nat.gcd_comm]; exact this
  have e2 := Int.natAbs_dvd_natAbs.2 e
  rw [Int.natAbs_mul] at e2
  exact Int.natAbs_dvd_natAbs.1 (hc.dvd_of_dvd_mul_left e2)
/-- lowest terms are the only ones -/
theorem cop_uniq {p q x y : Int} (h : gc p q = 1) (g : gc x y = 1) (hq : 0 < q) (hy : 0 < y) (e : p * y = x * q) : x = p ∧ y = q := by
  have d1 : q ∣ y := cop_dvd h ⟨x, by rw [e, Int.mul_comm]⟩
  have d2 : y ∣ q := cop_dvd g ⟨p, by rw [← e, Int.mul_comm]⟩
  have l1 := Int.le_of_dvd hy d1
  have l2 := Int.le_of_dvd hq d2
  have : y = q := by omega
  subst this
  exact ⟨(Int.eq_of_mul_eq_mul_right (by omega) e).symm, rfl⟩
theorem low_uniq {n d p q : Int} (hd : ¬ d = 0) (h : gc p q = 1) (hq : 0 < q) (e : p * d = n * q) : lowN n d = p ∧ lowD n d = q := by
  obtain ⟨e1, e2⟩ := low_mul n d
  refine cop_uniq h (low_cop hd) hq (low_pos hd) ?_
  have hs := sgc_ne (n := n) hd
  refine Int.eq_of_mul_eq_mul_left hs ?_
  calc sgc n d * (p * lowD n d) = p * (sgc n d * lowD n d) := by rw [Int.mul_left_comm]
    _ = n * q := by rw [e2, e]
    _ = sgc n d * (lowN n d * q) := by rw [← Int.mul_assoc, e1]
/-- the value stays -/
theorem low_value (n d : Int) : lowN n d * d = n * lowD n d := by
  obtain ⟨e1, e2⟩ := low_mul n d
  calc lowN n d * d = lowN n d * (sgc n d * lowD n d) := by rw [e2]
    _ = (sgc n d * lowN n d) * lowD n d := by rw [Int.mul_left_comm, Int.mul_assoc]
    _ = n * lowD n d := by rw [e1]

/-- a fraction in lowest terms of at most 10^9 -/
def ratB (a b : Int) : Bool := decide (-1000000000 ≤ a) && decide (a ≤ 1000000000) && decide (1 ≤ b) && decide (b ≤ 1000000000) && (gc a b == 1)
theorem ratB_t {a b : Int} (h : ratB a b = true) : -1000000000 ≤ a ∧ a ≤ 1000000000 ∧ 1 ≤ b ∧ b ≤ 1000000000 ∧ gc a b = 1 := by
  unfold ratB at h
  simpa only [Bool.and_eq_true, decide_eq_true_eq, beq_iff_eq, and_assoc] using h
theorem ratB_mk {a b : Int} (h1 : -1000000000 ≤ a) (h2 : a ≤ 1000000000) (h3 : 1 ≤ b) (h4 : b ≤ 1000000000) : ratB a b = (gc a b == 1) := by
  unfold ratB
  rw [decide_eq_true h1, decide_eq_true h2, decide_eq_true h3, decide_eq_true h4]; rfl
theorem ratB_no {a b : Int} (h : a < -1000000000 ∨ 1000000000 < a ∨ b < 1 ∨ 1000000000 < b) : ratB a b = false := by
  cases hr : ratB a b
  · rfl
  · have := ratB_t hr; omega
/-- the fraction n / d in lowest terms and the code 0, or the code 2 -/
def mkT (n d : Int) : Int × Int × Int := if ratB (lowN n d) (lowD n d) then (lowN n d, lowD n d, 0) else (0, 0, 2)
theorem mkT_of {n d p q : Int} (hd : ¬ d = 0) (h : ratB p q = true) (e : p * d = n * q) : mkT n d = (p, q, 0) := by
  obtain ⟨_, _, h3, _, h5⟩ := ratB_t h
  obtain ⟨e1, e2⟩ := low_uniq hd h5 (by omega) e
  unfold mkT
  rw [e1, e2, h]; rfl
theorem mkT_0 {n d : Int} (h : (mkT n d).2.2 = 0) : ratB (mkT n d).1 (mkT n d).2.1 = true ∧ (mkT n d).1 = lowN n d ∧ (mkT n d).2.1 = lowD n d := by
  unfold mkT at h ⊢
  split at h
  · rename_i g; rw [if_pos g]; exact ⟨g, rfl, rfl⟩
  · cases h
theorem mkT_val {n d : Int} (h : (mkT n d).2.2 = 0) : (mkT n d).1 * d = n * (mkT n d).2.1 := by
  obtain ⟨_, e1, e2⟩ := mkT_0 h
  rw [e1, e2]; exact low_value n d
/-- the sum, the product, the mediant, the inverse -/
def addT (a b c d : Int) : Int × Int × Int := if ratB a b && ratB c d then mkT (a * d + c * b) (b * d) else (0, 0, 1)
def mulT (a b c d : Int) : Int × Int × Int := if ratB a b && ratB c d then mkT (a * c) (b * d) else (0, 0, 1)
def medT (a b c d : Int) : Int × Int × Int := if ratB a b && ratB c d then mkT (a + c) (b + d) else (0, 0, 1)
def invT (a b : Int) : Int × Int × Int := if ratB a b then (if a = 0 then (0, 0, 5) else mkT b a) else (0, 0, 1)
/-- less, equal, greater -/
def sgn (x y : Int) : Int := if x < y then -1 else if y < x then 1 else 0
def cmpV (a b c d : Int) : Int := if ratB a b && ratB c d then sgn (a * d) (c * b) else 0
def cmpC (a b c d : Int) : Int := if ratB a b && ratB c d then 0 else 1
theorem inv_back {a b : Int} (h : (invT a b).2.2 = 0) : invT (invT a b).1 (invT a b).2.1 = (a, b, 0) ∧ mulT a b (invT a b).1 (invT a b).2.1 = (1, 1, 0) := by
  cases hr : ratB a b
  · unfold invT at h; rw [hr] at h; cases h
  · obtain ⟨a1, a2, b1, b2, g⟩ := ratB_t hr
    by_cases ha : a = 0
    · unfold invT at h; rw [hr, if_pos ha] at h; cases h
    · have e : invT a b = mkT b a := by unfold invT; rw [hr, if_neg ha]; rfl
      rw [e] at h ⊢
      have hv := mkT_val h
      obtain ⟨hr2, _, _⟩ := mkT_0 h
      generalize (mkT b a).1 = p at *
      generalize (mkT b a).2.1 = q at *
      obtain ⟨p1, p2, q1, q2, g2⟩ := ratB_t hr2
      have hp : ¬ p = 0 := by
        intro h0; subst h0
        have := Int.mul_pos (show 0 < b by omega) (show 0 < q by omega); omega
      have hbq : ¬ b * q = 0 := by
        have := Int.mul_pos (show 0 < b by omega) (show 0 < q by omega); omega
      constructor
      · unfold invT
        rw [hr2, if_neg hp]
        exact mkT_of hp hr (by rw [Int.mul_comm a p, hv, Int.mul_comm])
      · unfold mulT
        rw [hr, hr2]
        exact mkT_of hbq (by decide) (by rw [Int.one_mul, Int.mul_one, ← hv, Int.mul_comm])
theorem add_back {a b c d : Int} (h : (addT a b c d).2.2 = 0) : addT (addT a b c d).1 (addT a b c d).2.1 (-c) d = (a, b, 0) := by
  cases hr : (ratB a b && ratB c d)
  · unfold addT at h; rw [hr] at h; cases h
  · have e : addT a b c d = mkT (a * d + c * b) (b * d) := by unfold addT; rw [hr]; rfl
    rw [e] at h ⊢
    rw [Bool.and_eq_true] at hr
    obtain ⟨ha, hc⟩ := hr
    obtain ⟨a1, a2, b1, b2, ga⟩ := ratB_t ha
    obtain ⟨c1, c2, d1, d2, gd⟩ := ratB_t hc
    have hbd := Int.mul_pos (show 0 < b by omega) (show 0 < d by omega)
    have hv := mkT_val h
    obtain ⟨hr2, _, _⟩ := mkT_0 h
    generalize (mkT (a * d + c * b) (b * d)).1 = p at *
    generalize (mkT (a * d + c * b) (b * d)).2.1 = q at *
    obtain ⟨p1, p2, q1, q2, g2⟩ := ratB_t hr2
    have hm : ratB (-c) d = true := by
      have e : gc (-c) d = gc c d := by unfold gc Int.gcd; simp
      rw [ratB_mk (by omega) (by omega) (by omega) (by omega), e, gd]; rfl
    have hqd := Int.mul_pos (show 0 < q by omega) (show 0 < d by omega)
    unfold addT
    rw [hr2, hm]
    refine mkT_of (by omega) ha ?_
    -- a * (q * d) = (p * d + -c * q) * b
    rw [Int.add_mul] at hv ⊢
    have e1 : p * (b * d) = p * d * b := by rw [Int.mul_assoc, Int.mul_comm d b]
    have e2 : a * d * q = a * (q * d) := by rw [Int.mul_assoc, Int.mul_comm d q]
    have e3 : -c * q * b = -(c * b * q) := by rw [Int.neg_mul, Int.neg_mul, Int.mul_assoc, Int.mul_comm q b, ← Int.mul_assoc]
    rw [e3]
    omega
theorem sgn_scale {x y g : Int} (hg : 0 < g) : sgn (g * x) (g * y) = sgn x y := by
  unfold sgn
  have e1 : g * x < g * y ↔ x < y := Int.mul_lt_mul_left hg
  have e2 : g * y < g * x ↔ y < x := Int.mul_lt_mul_left hg
  simp only [e1, e2]
theorem sgn_add (x y z : Int) : sgn (z + x) (z + y) = sgn x y := by
  unfold sgn
  have e1 : z + x < z + y ↔ x < y := by omega
  have e2 : z + y < z + x ↔ y < x := by omega
  simp only [e1, e2]
theorem sgn_anti (x y : Int) : sgn y x = -(sgn x y) := by
  unfold sgn
  split <;> split <;> first | omega | (split <;> omega)
/-- the mediant lies between -/
theorem med_mid {a b c d : Int} (h : (medT a b c d).2.2 = 0) : cmpC a b (medT a b c d).1 (medT a b c d).2.1 = 0 ∧ cmpC (medT a b c d).1 (medT a b c d).2.1 c d = 0 ∧ cmpC a b c d = 0 ∧
    cmpV a b (medT a b c d).1 (medT a b c d).2.1 = cmpV a b c d ∧ cmpV (medT a b c d).1 (medT a b c d).2.1 c d = cmpV a b c d := by
  cases hr : (ratB a b && ratB c d)
  · unfold medT at h; rw [hr] at h; cases h
  · have e : medT a b c d = mkT (a + c) (b + d) := by unfold medT; rw [hr]; rfl
    rw [e] at h ⊢
    have hrr := hr
    rw [Bool.and_eq_true] at hr
    obtain ⟨ha, hc⟩ := hr
    obtain ⟨a1, a2, b1, b2, ga⟩ := ratB_t ha
    obtain ⟨c1, c2, d1, d2, gd⟩ := ratB_t hc
    obtain ⟨hr2, e1, e2⟩ := mkT_0 h
    have hbd : ¬ b + d = 0 := by omega
    obtain ⟨m1, m2⟩ := low_mul (a + c) (b + d)
    have hg : 0 < sgc (a + c) (b + d) := by
      have := gc_pos (a := a + c) hbd
      unfold sgc; rw [if_neg (by omega)]; exact this
    rw [← e1] at m1
    rw [← e2] at m2
    generalize (mkT (a + c) (b + d)).1 = p at *
    generalize (mkT (a + c) (b + d)).2.1 = q at *
    generalize sgc (a + c) (b + d) = g at *
    refine ⟨by unfold cmpC; rw [ha, hr2]; rfl, by unfold cmpC; rw [hr2, hc]; rfl, by unfold cmpC; rw [ha, hc]; rfl, ?_, ?_⟩
    · unfold cmpV
      rw [ha, hr2, hc]
      show sgn (a * q) (p * b) = sgn (a * d) (c * b)
      rw [← sgn_scale hg, Int.mul_left_comm g a q, m2, ← Int.mul_assoc g p b, m1, Int.mul_add, Int.add_mul, sgn_add]
    · unfold cmpV
      rw [ha, hr2, hc]
      show sgn (p * d) (c * q) = sgn (a * d) (c * b)
      rw [← sgn_scale hg, Int.mul_left_comm g c q, m2, ← Int.mul_assoc g p d, m1, Int.mul_add, Int.add_mul, Int.add_comm (a * d), Int.add_comm (c * b), sgn_add]
end Go.Proofs.Ytlahgdhofakinaa.Num
namespace Go.Proofs.Ytlahgdhofakinaa.Num
set_option linter.unusedVariables false
/-- the divisor of all three -/
def g3 (c s h : Int) : Int := gc (gc c s) h
theorem gc_dl (a b : Int) : gc a b ∣ a := Int.gcd_dvd_left a b
theorem gc_dr (a b : Int) : gc a b ∣ b := Int.gcd_dvd_right a b
theorem dvd_gc {a b g : Int} (h1 : g ∣ a) (h2 : g ∣ b) : g ∣ gc a b := Int.dvd_coe_gcd h1 h2
theorem g3_1 (c s h : Int) : g3 c s h ∣ c := Int.dvd_trans (gc_dl _ _) (gc_dl _ _)
theorem g3_2 (c s h : Int) : g3 c s h ∣ s := Int.dvd_trans (gc_dl _ _) (gc_dr _ _)
theorem g3_3 (c s h : Int) : g3 c s h ∣ h := gc_dr _ _
theorem g3_pos {c s h : Int} (h0 : ¬ h = 0) : 0 < g3 c s h := gc_pos h0
theorem g3_neg (c s h : Int) : g3 c (-s) h = g3 c s h := by unfold g3 gc; rw [Int.gcd_neg]
theorem g3_mul {g c s h : Int} (hg : 0 ≤ g) : g3 (g * c) (g * s) (g * h) = g * g3 c s h := by
  unfold g3 gc
  rw [Int.gcd_mul_left, Int.natCast_mul, Int.natAbs_of_nonneg hg, Int.gcd_mul_left, Int.natCast_mul, Int.natAbs_of_nonneg hg]
/-- the direction is valid -/
def dirB (c s h : Int) : Bool := decide (1 ≤ h) && decide (h ≤ 1000) && decide (1 ≤ c) && decide (c ≤ h) && decide (-h ≤ s) && decide (s ≤ h) && decide (¬ s = 0) && decide (c * c + s * s = h * h) && decide (g3 c s h = 1)
structure DirOk (c s h : Int) : Prop where
  h1 : 1 ≤ h
  h2 : h ≤ 1000
  c1 : 1 ≤ c
  c2 : c ≤ h
  s1 : -h ≤ s
  s2 : s ≤ h
  s0 : ¬ s = 0
  py : c * c + s * s = h * h
  gg : g3 c s h = 1
theorem dirB_t {c s h : Int} (e : dirB c s h = true) : DirOk c s h := by
  unfold dirB at e
  simp only [Bool.and_eq_true, decide_eq_true_eq] at e
  obtain ⟨⟨⟨⟨⟨⟨⟨⟨a1, a2⟩, a3⟩, a4⟩, a5⟩, a6⟩, a7⟩, a8⟩, a9⟩ := e
  exact ⟨a1, a2, a3, a4, a5, a6, a7, a8, a9⟩
theorem DirOk.b {c s h : Int} (o : DirOk c s h) : dirB c s h = true := by
  unfold dirB
  simp only [Bool.and_eq_true, decide_eq_true_eq]
  exact ⟨⟨⟨⟨⟨⟨⟨⟨o.h1, o.h2⟩, o.c1⟩, o.c2⟩, o.s1⟩, o.s2⟩, o.s0⟩, o.py⟩, o.gg⟩
theorem dirB_f {c s h : Int} (n : ¬ DirOk c s h) : dirB c s h = false := by
  cases e : dirB c s h
  · rfl
  · exact absurd (dirB_t e) n
theorem DirOk.mir {c s h : Int} (o : DirOk c s h) : DirOk c (-s) h :=
  ⟨o.h1, o.h2, o.c1, o.c2, by have := o.s2; omega, by have := o.s1; omega, by have := o.s0; omega, by rw [Int.neg_mul_neg]; exact o.py, by rw [g3_neg]; exact o.gg⟩
theorem dirB_mir (c s h : Int) : dirB c (-s) h = dirB c s h := by
  cases e : dirB c s h
  · refine dirB_f fun o => ?_
    have := o.mir
    rw [Int.neg_neg] at this
    rw [this.b] at e; cases e
  · exact (dirB_t e).mir.b
/-- squares -/
theorem sq_lt {a b : Int} (ha : 0 ≤ a) (h : a < b) : a * a < b * b := by
  have h1 := Int.mul_le_mul_of_nonneg_right (show a ≤ b by omega) ha
  have h2 := Int.mul_lt_mul_of_pos_left h (show 0 < b by omega)
  omega
theorem sq_nn (a : Int) : 0 ≤ a * a := by
  rcases Int.le_total 0 a with l | l
  · exact Int.mul_nonneg l l
  · exact Int.mul_nonneg_of_nonpos_of_nonpos l l
theorem sq_le {a b : Int} (ha : 0 ≤ a) (hb : 0 ≤ b) (h : a * a ≤ b * b) : a ≤ b := by
  rcases Int.lt_or_le b a with l | l
  · have := sq_lt hb l
    omega
  · exact l
/-- the first number lies below the third, the second beside -/
theorem py_le {c s h : Int} (h1 : 1 ≤ h) (c1 : 1 ≤ c) (py : c * c + s * s = h * h) : c ≤ h ∧ -h ≤ s ∧ s ≤ h := by
  have e1 := sq_nn s
  have e2 := sq_nn c
  have e3 : s * s = (s.natAbs : Int) * (s.natAbs : Int) := by
    rcases Int.le_total 0 s with l | l
    · rw [Int.natAbs_of_nonneg l]
    · have : (s.natAbs : Int) = -s := by omega
      rw [this, Int.neg_mul_neg]
  have l1 := sq_le (by omega : (0 : Int) ≤ c) (by omega : (0 : Int) ≤ h) (by omega)
  have l2 := sq_le (by omega : (0 : Int) ≤ (s.natAbs : Int)) (by omega : (0 : Int) ≤ h) (by omega)
  omega
theorem DirOk.cop {c s h : Int} (o : DirOk c s h) : gc c h = 1 := by
  have hp : 0 < gc c h := gc_pos (by have := o.h1; omega)
  obtain ⟨a, ha⟩ := gc_dl c h
  obtain ⟨b, hb⟩ := gc_dr c h
  have e : s * s = (gc c h) * (gc c h) * (b * b - a * a) := by
    have py := o.py
    have e1 : c * c = (gc c h) * (gc c h) * (a * a) := by
      calc c * c = (gc c h * a) * (gc c h * a) := by rw [← ha]
        _ = _ := by simp only [Int.mul_assoc, Int.mul_left_comm, Int.mul_comm]
    have e2 : h * h = (gc c h) * (gc c h) * (b * b) := by
      calc h * h = (gc c h * b) * (gc c h * b) := by rw [← hb]
        _ = _ := by simp only [Int.mul_assoc, Int.mul_left_comm, Int.mul_comm]
    rw [Int.mul_sub, ← e1, ← e2]; omega
  have d : gc c h ∣ s := by
    have : (gc c h) ^ 2 ∣ s ^ 2 := ⟨b * b - a * a, by rw [Int.pow_succ, Int.pow_succ, Int.pow_zero, Int.pow_succ, Int.pow_succ, Int.pow_zero, Int.one_mul, Int.one_mul]; exact e⟩
    exact (Int.pow_dvd_pow_iff (by decide)).1 this
  have d3 : gc c h ∣ g3 c s h := dvd_gc (dvd_gc (gc_dl _ _) d) (gc_dr _ _)
  rw [o.gg] at d3
  have := Int.le_of_dvd (by decide) d3
  omega
/-- equally flat: the same or mirrored -/
theorem flat_iff {c s h x y z : Int} (o : DirOk c s h) (p : DirOk x y z) : (c * z = x * h) ↔ ((x = c ∧ y = s ∧ z = h) ∨ (x = c ∧ y = -s ∧ z = h)) := by
  constructor
  · intro e
    obtain ⟨e1, e2⟩ := cop_uniq o.cop p.cop (by have := o.h1; omega) (by have := p.h1; omega) e
    subst e1 e2
    have hs : y * y = s * s := by have a := o.py; have b := p.py; omega
    have : (y - s) * (y + s) = 0 := by
      rw [Int.sub_mul, Int.mul_add, Int.mul_add, Int.mul_comm s y]; omega
    rcases Int.mul_eq_zero.1 this with f | f
    · exact .inl ⟨rfl, by omega, rfl⟩
    · exact .inr ⟨rfl, by omega, rfl⟩
  · rintro (⟨rfl, rfl, rfl⟩ | ⟨rfl, rfl, rfl⟩) <;> rfl
/-- lowest terms of three numbers -/
def lw (g x : Int) : Int := x.tdiv g
theorem lw_mul {g x : Int} (h : g ∣ x) : g * lw g x = x := Int.mul_tdiv_cancel' h
theorem lw_1 (x : Int) : lw 1 x = x := Int.tdiv_one x
theorem lw_ne {g x : Int} (hx : 0 < x) (hg : 0 < g) (h1 : ¬ g = 1) (h : g ∣ x) : ¬ lw g x = x := by
  intro e
  have := lw_mul h
  rw [e] at this
  have := Int.mul_le_mul_of_nonneg_right (show (2 : Int) ≤ g by omega) (show (0 : Int) ≤ x by omega)
  omega
theorem lw_pos {g x : Int} (hg : 0 < g) (hx : 0 < x) (h : g ∣ x) : 0 < lw g x := by
  have e := lw_mul h
  rcases Int.lt_or_le 0 (lw g x) with l | l
  · exact l
  · have := Int.mul_nonneg_of_nonpos_of_nonpos (show -g ≤ 0 by omega) l
    rw [Int.neg_mul] at this; omega
theorem lw_le {g x : Int} (hg : 0 < g) (hx : 0 < x) (h : g ∣ x) : lw g x ≤ x := by
  have e := lw_mul h
  have p := lw_pos hg hx h
  have := Int.mul_le_mul_of_nonneg_right (show (1 : Int) ≤ g by omega) (show (0 : Int) ≤ lw g x by omega)
  omega
theorem lw_neg (g x : Int) : lw g (-x) = -(lw g x) := Int.neg_tdiv _ _
/-- the divisor of the three numbers of m and n -/
def mg (m n : Int) : Int := g3 (n * n - m * m) (2 * m * n) (n * n + m * m)
def mc (m n : Int) : Int := lw (mg m n) (n * n - m * m)
def ms (m n : Int) : Int := lw (mg m n) (2 * m * n)
def mh (m n : Int) : Int := lw (mg m n) (n * n + m * m)
/-- m and n are within the bounds -/
def mnB (m n : Int) : Bool := decide (1 ≤ m) && decide (m < n) && decide (n ≤ 1000) && decide (n * n + m * m ≤ 1000)
theorem mnB_t {m n : Int} (h : mnB m n = true) : 1 ≤ m ∧ m < n ∧ n ≤ 1000 ∧ n * n + m * m ≤ 1000 := by
  unfold mnB at h
  simpa only [Bool.and_eq_true, decide_eq_true_eq, and_assoc] using h
theorem mn_pos {m n : Int} (h : mnB m n = true) : 0 < n * n - m * m ∧ 0 < 2 * m * n ∧ 0 < n * n + m * m ∧ n * n ≤ 1000 ∧ 0 < m * m ∧ 2 * m * n ≤ 1000 := by
  obtain ⟨h1, h2, h3, h4⟩ := mnB_t h
  have a : m * m < n * n := sq_lt (by omega) h2
  have b : 0 < m * n := Int.mul_pos (by omega) (by omega)
  have c : 0 < m * m := Int.mul_pos (by omega) (by omega)
  have e := sq_nn (n - m)
  rw [Int.sub_mul, Int.mul_sub, Int.mul_sub, Int.mul_comm n m] at e
  rw [Int.mul_assoc]
  omega
theorem mn_py (m n : Int) : (n * n - m * m) * (n * n - m * m) + (2 * m * n) * (2 * m * n) = (n * n + m * m) * (n * n + m * m) := by
  have : (2 * m * n) * (2 * m * n) = 4 * ((n * n) * (m * m)) := by
    rw [show (4 : Int) = 2 * 2 by decide]; simp only [Int.mul_assoc, Int.mul_left_comm, Int.mul_comm]
  rw [this]
  obtain ⟨a, ha⟩ : ∃ a, n * n = a := ⟨_, rfl⟩
  obtain ⟨b, hb⟩ : ∃ b, m * m = b := ⟨_, rfl⟩
  rw [ha, hb, Int.sub_mul, Int.mul_sub, Int.mul_sub, Int.add_mul, Int.mul_add, Int.mul_add, Int.mul_comm b a]
  omega
theorem mn_ok {m n : Int} (h : mnB m n = true) : DirOk (mc m n) (ms m n) (mh m n) := by
  obtain ⟨p1, p2, p3, p4, p5, p6⟩ := mn_pos h
  have q := (mnB_t h).2.2.2
  have hg : 0 < mg m n := g3_pos (by omega)
  have d1 := g3_1 (n * n - m * m) (2 * m * n) (n * n + m * m)
  have d2 := g3_2 (n * n - m * m) (2 * m * n) (n * n + m * m)
  have d3 := g3_3 (n * n - m * m) (2 * m * n) (n * n + m * m)
  have e1 : mg m n * mc m n = n * n - m * m := lw_mul d1
  have e2 : mg m n * ms m n = 2 * m * n := lw_mul d2
  have e3 : mg m n * mh m n = n * n + m * m := lw_mul d3
  have c1 : 0 < mc m n := lw_pos hg p1 d1
  have s1 : 0 < ms m n := lw_pos hg p2 d2
  have h1 : 0 < mh m n := lw_pos hg p3 d3
  have h2 : mh m n ≤ n * n + m * m := lw_le hg p3 d3
  have py : mc m n * mc m n + ms m n * ms m n = mh m n * mh m n := by
    have e := mn_py m n
    rw [← e1, ← e2, ← e3] at e
    have f : ∀ x : Int, (mg m n * x) * (mg m n * x) = (mg m n * mg m n) * (x * x) := fun x => by simp only [Int.mul_assoc, Int.mul_left_comm, Int.mul_comm]
    rw [f, f, f, ← Int.mul_add] at e
    exact Int.eq_of_mul_eq_mul_left (Int.ne_of_gt (Int.mul_pos hg hg)) e
  obtain ⟨l1, l2, l3⟩ := py_le (by omega) (by omega) py
  have gg : g3 (mc m n) (ms m n) (mh m n) = 1 := by
    have e : mg m n = mg m n * g3 (mc m n) (ms m n) (mh m n) := by
      rw [← g3_mul (by omega), e1, e2, e3]; rfl
    have e' : mg m n * g3 (mc m n) (ms m n) (mh m n) = mg m n * 1 := by rw [← e, Int.mul_one]
    exact Int.eq_of_mul_eq_mul_left (by omega) e'
  exact ⟨by omega, by omega, by omega, l1, l2, l3, by omega, py, gg⟩
/-- the made direction, and the code -/
def mdT (m n : Int) (d : Bool) : Int × Int × Int × Int := if mnB m n then (mc m n, if d then ms m n else -(ms m n), mh m n, 0) else (0, 0, 0, 2)
/-- less is steeper -/
def cdV (c s h x y z : Int) : Int := if dirB c s h && dirB x y z then sgn (c * z) (x * h) else 0
def cdC (c s h x y z : Int) : Int := if dirB c s h && dirB x y z then 0 else 1
theorem mul_cancel_lt {g a b : Int} (hg : 0 < g) (h : g * a < g * b) : a < b := Int.lt_of_mul_lt_mul_left h (by omega)
theorem made_steeper {m n : Int} (h : mnB m n = true) (k : mnB (m + 1) n = true) : mc (m + 1) n * mh m n < mc m n * mh (m + 1) n := by
  obtain ⟨p1, p2, p3, p4, p5, p6⟩ := mn_pos h
  obtain ⟨q1, q2, q3, q4, q5, q6⟩ := mn_pos k
  have hg : 0 < mg m n := g3_pos (by omega)
  have hk : 0 < mg (m + 1) n := g3_pos (by omega)
  have e1 : mg m n * mc m n = n * n - m * m := lw_mul (g3_1 _ _ _)
  have e3 : mg m n * mh m n = n * n + m * m := lw_mul (g3_3 _ _ _)
  have f1 : mg (m + 1) n * mc (m + 1) n = n * n - (m + 1) * (m + 1) := lw_mul (g3_1 _ _ _)
  have f3 : mg (m + 1) n * mh (m + 1) n = n * n + (m + 1) * (m + 1) := lw_mul (g3_3 _ _ _)
  refine mul_cancel_lt (Int.mul_pos hg hk) ?_
  have a1 : mg m n * mg (m + 1) n * (mc (m + 1) n * mh m n) = (n * n - (m + 1) * (m + 1)) * (n * n + m * m) := by
    rw [← f1, ← e3]; simp only [Int.mul_assoc, Int.mul_left_comm, Int.mul_comm]
  have a2 : mg m n * mg (m + 1) n * (mc m n * mh (m + 1) n) = (n * n - m * m) * (n * n + (m + 1) * (m + 1)) := by
    rw [← e1, ← f3]; simp only [Int.mul_assoc, Int.mul_left_comm, Int.mul_comm]
  rw [a1, a2]
  have hm : m * m < (m + 1) * (m + 1) := by rw [Int.add_mul, Int.mul_add]; have := (mnB_t h).1; omega
  obtain ⟨N, hN⟩ : ∃ a, n * n = a := ⟨_, rfl⟩
  obtain ⟨a, ha⟩ : ∃ a, m * m = a := ⟨_, rfl⟩
  obtain ⟨b, hb⟩ : ∃ b, (m + 1) * (m + 1) = b := ⟨_, rfl⟩
  rw [hN, ha, hb]
  rw [ha, hb] at hm
  have hNp : 0 < N := by omega
  have := Int.mul_lt_mul_of_pos_left hm hNp
  rw [Int.sub_mul, Int.mul_add, Int.mul_add, Int.sub_mul, Int.mul_add, Int.mul_add, Int.mul_comm b N, Int.mul_comm b a, Int.mul_comm a N]
  omega
end Go.Proofs.Ytlahgdhofakinaa.Num
namespace Go.Proofs.Ytlahgdhofakinaa.Num
def rtN : Nat → Nat
  | 0 => 0
  | n + 1 => if (rtN n + 1) * (rtN n + 1) ≤ n + 1 then rtN n + 1 else rtN n
theorem rtN_spec (n : Nat) : rtN n * rtN n ≤ n ∧ n < (rtN n + 1) * (rtN n + 1) := by
  induction n with
  | zero => simp [rtN]
  | succ n ih =>
    obtain ⟨h1, h2⟩ := ih
    unfold rtN
    split
    · rename_i h
      refine ⟨h, ?_⟩
      have : (rtN n + 1 + 1) * (rtN n + 1 + 1) = (rtN n + 1) * (rtN n + 1) + 2 * (rtN n + 1) + 1 := by
        rw [Nat.add_mul, Nat.mul_add]; omega
      omega
    · rename_i h; omega
/-- the root of an integer of at least 0 -/
def rt (n : Int) : Int := (rtN n.toNat : Int)
theorem rt_nonneg (n : Int) : 0 ≤ rt n := by unfold rt; omega
theorem rt_sq (n : Int) (h : 0 ≤ n) : rt n * rt n ≤ n ∧ n < (rt n + 1) * (rt n + 1) := by
  have g := rtN_spec n.toNat
  unfold rt
  have e1 : ((rtN n.toNat : Int) * (rtN n.toNat : Int)) = ((rtN n.toNat * rtN n.toNat : Nat) : Int) := by simp
  have e2 : (((rtN n.toNat : Int) + 1) * ((rtN n.toNat : Int) + 1)) = (((rtN n.toNat + 1) * (rtN n.toNat + 1) : Nat) : Int) := by simp
  rw [e1, e2]; omega
theorem rsq_lt {a b : Int} (ha : 0 ≤ a) (h : a < b) : a * a < b * b := by
  have h1 := Int.mul_le_mul_of_nonneg_left (show a + 1 ≤ b by omega) (show 0 ≤ b by omega)
  have h2 := Int.mul_le_mul_of_nonneg_right (show a ≤ b by omega) ha
  rw [Int.mul_add] at h1
  omega
theorem rsq_le {a b : Int} (ha : 0 ≤ a) (h : a ≤ b) : a * a ≤ b * b :=
  Int.mul_le_mul h h ha (by omega)
theorem rt_unique {n r : Int} (hr : 0 ≤ r) (h1 : r * r ≤ n) (h2 : n < (r + 1) * (r + 1)) : rt n = r := by
  have hn : 0 ≤ n := Int.le_trans (Int.mul_nonneg hr hr) h1
  have g := rt_sq n hn
  have g0 := rt_nonneg n
  rcases Int.lt_trichotomy (rt n) r with h | h | h
  · have := rsq_le (a := rt n + 1) (b := r) (by omega) (by omega); omega
  · exact h
  · have := rsq_le (a := r + 1) (b := rt n) (by omega) (by omega); omega
theorem rt_le {n : Int} (h0 : 0 ≤ n) (h : n ≤ 4000000000000000000) : rt n ≤ 2000000000 := by
  have g := rt_sq n h0
  by_cases c : rt n ≤ 2000000000
  · exact c
  · have := rsq_le (a := 2000000001) (b := rt n) (by omega) (by omega); omega
end Go.Proofs.Ytlahgdhofakinaa.Num
