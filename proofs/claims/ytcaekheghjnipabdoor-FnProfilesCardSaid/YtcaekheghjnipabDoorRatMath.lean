/- Plain facts on integers: greatest common divisors, fractions in lowest terms. No condition but those that each states. -/
namespace Go.Proofs.YtcaekheghjnipabDoor.Num
/-- the greatest common divisor -/
def gc (a b : Int) : Int := (Int.gcd a b : Int)
theorem gc_step (a b : Int) : gc b (a.tmod b) = gc a b := by
  unfold gc Int.gcd
  rw [Int.natAbs_tmod, Nat.gcd_comm b.natAbs, ← Nat.gcd_rec, Nat.gcd_comm]
theorem gc_zero (a : Int) : gc a 0 = (a.natAbs : Int) := by unfold gc Int.gcd; simp
theorem gc_abs (a b : Int) : gc (a.natAbs : Int) (b.natAbs : Int) = gc a b := by unfold gc Int.gcd; simp
theorem gc_neg (a b : Int) : gc (-a) (-b) = gc a b := by unfold gc Int.gcd; simp
theorem gc_pos {a b : Int} (h : ¬ b = 0) : 0 < gc a b := by
  have : Int.gcd a b ≠ 0 := fun e => h (Int.gcd_eq_zero_iff.1 e).2
  unfold gc; omega
theorem gc_le {a b : Int} (h : ¬ b = 0) : gc a b ≤ (b.natAbs : Int) := by
  have := Nat.le_of_dvd (by omega) (Nat.gcd_dvd_right a.natAbs b.natAbs)
  have e : gc a b = ((Nat.gcd a.natAbs b.natAbs : Nat) : Int) := rfl
  omega
/-- the divisor that makes the second term positive -/
def sgc (n d : Int) : Int := if d < 0 then -(gc n d) else gc n d
def lowN (n d : Int) : Int := n.tdiv (sgc n d)
def lowD (n d : Int) : Int := d.tdiv (sgc n d)
theorem sgc_ne {n d : Int} (h : ¬ d = 0) : ¬ sgc n d = 0 := by
  have := gc_pos (a := n) h
  unfold sgc; split <;> omega
theorem sgc_dvd (n d : Int) : sgc n d ∣ n ∧ sgc n d ∣ d := by
  have a : gc n d ∣ n := Int.gcd_dvd_left n d
  have b : gc n d ∣ d := Int.gcd_dvd_right n d
  unfold sgc; split
  · exact ⟨Int.neg_dvd.2 a, Int.neg_dvd.2 b⟩
  · exact ⟨a, b⟩
theorem low_mul (n d : Int) : sgc n d * lowN n d = n ∧ sgc n d * lowD n d = d :=
  ⟨Int.mul_tdiv_cancel' (sgc_dvd n d).1, Int.mul_tdiv_cancel' (sgc_dvd n d).2⟩
theorem low_pos {n d : Int} (h : ¬ d = 0) : 0 < lowD n d := by
  have e := (low_mul n d).2
  have g := gc_pos (a := n) h
  unfold sgc at e
  rcases Int.lt_trichotomy (lowD n d) 0 with l | l | l
  · split at e
    · rename_i hd
      have := Int.mul_nonneg_of_nonpos_of_nonpos (show -(gc n d) ≤ 0 by omega) (show lowD n d ≤ 0 by omega); omega
    · have := Int.mul_le_mul_of_nonneg_left (show lowD n d ≤ -1 by omega) (show 0 ≤ gc n d by omega); omega
  · rw [l, Int.mul_zero] at e; omega
  · exact l
theorem low_cop {n d : Int} (h : ¬ d = 0) : gc (lowN n d) (lowD n d) = 1 := by
  have g := gc_pos (a := n) h
  have es : (sgc n d).natAbs = Nat.gcd n.natAbs d.natAbs := by
    have e : gc n d = ((Nat.gcd n.natAbs d.natAbs : Nat) : Int) := rfl
    unfold sgc; split <;> omega
  have h1 : (lowN n d).natAbs = n.natAbs / Nat.gcd n.natAbs d.natAbs := by rw [← es]; exact Int.natAbs_tdiv _ _
  have h2 : (lowD n d).natAbs = d.natAbs / Nat.gcd n.natAbs d.natAbs := by rw [← es]; exact Int.natAbs_tdiv _ _
  have : Int.gcd (lowN n d) (lowD n d) = 1 := by
    unfold Int.gcd
    rw [h1, h2]
    exact Nat.coprime_div_gcd_div_gcd (by rw [← es]; have := sgc_ne (n := n) h; omega)
  show ((Int.gcd (lowN n d) (lowD n d) : Nat) : Int) = 1
  rw [this]; rfl
theorem cop_dvd {p q x : Int} (h : gc p q = 1) (e : q ∣ p * x) : q ∣ x := by
  have hc : Nat.Coprime q.natAbs p.natAbs := by
    have : Int.gcd p q = 1 := by unfold gc at h; omega
    unfold Nat.Coprime; rw [Nat.gcd_comm]; exact this
  have e2 := Int.natAbs_dvd_natAbs.2 e
  rw [Int.natAbs_mul] at e2
  exact Int.natAbs_dvd_natAbs.1 (hc.dvd_of_dvd_mul_left e2)
/-- lowest terms are the only ones -/
theorem cop_uniq {p q x y : Int} (h : gc p q = 1) (g : gc x y = 1) (hq : 0 < q) (hy : 0 < y) (e : p * y = x * q) : x = p ∧ y = q := by
  have d1 : q ∣ y := cop_dvd h ⟨x, by rw [e, Int.mul_comm]⟩
  have d2 : y ∣ q := cop_dvd g ⟨p, by rw [← e, Int.mul_comm]⟩
  have l1 := Int.le_of_dvd hy d1
  have l2 := Int.le_of_dvd hq d2
  have : y = q := by omega
  subst this
  exact ⟨(Int.eq_of_mul_eq_mul_right (by omega) e).symm, rfl⟩
theorem low_uniq {n d p q : Int} (hd : ¬ d = 0) (h : gc p q = 1) (hq : 0 < q) (e : p * d = n * q) : lowN n d = p ∧ lowD n d = q := by
  obtain ⟨e1, e2⟩ := low_mul n d
  refine cop_uniq h (low_cop hd) hq (low_pos hd) ?_
  have hs := sgc_ne (n := n) hd
  refine Int.eq_of_mul_eq_mul_left hs ?_
  calc sgc n d * (p * lowD n d) = p * (sgc n d * lowD n d) := by rw [Int.mul_left_comm]
    _ = n * q := by rw [e2, e]
    _ = sgc n d * (lowN n d * q) := by rw [← Int.mul_assoc, e1]
/-- the value stays -/
theorem low_value (n d : Int) : lowN n d * d = n * lowD n d := by
  obtain ⟨e1, e2⟩ := low_mul n d
  calc lowN n d * d = lowN n d * (sgc n d * lowD n d) := by rw [e2]
    _ = (sgc n d * lowN n d) * lowD n d := by rw [Int.mul_left_comm, Int.mul_assoc]
    _ = n * lowD n d := by rw [e1]

/-- a fraction in lowest terms of at most 10^9 -/
def ratB (a b : Int) : Bool := decide (-1000000000 ≤ a) && decide (a ≤ 1000000000) && decide (1 ≤ b) && decide (b ≤ 1000000000) && (gc a b == 1)
theorem ratB_t {a b : Int} (h : ratB a b = true) : -1000000000 ≤ a ∧ a ≤ 1000000000 ∧ 1 ≤ b ∧ b ≤ 1000000000 ∧ gc a b = 1 := by
  unfold ratB at h
  simpa only [Bool.and_eq_true, decide_eq_true_eq, beq_iff_eq, and_assoc] using h
theorem ratB_mk {a b : Int} (h1 : -1000000000 ≤ a) (h2 : a ≤ 1000000000) (h3 : 1 ≤ b) (h4 : b ≤ 1000000000) : ratB a b = (gc a b == 1) := by
  unfold ratB
  rw [decide_eq_true h1, decide_eq_true h2, decide_eq_true h3, decide_eq_true h4]; rfl
theorem ratB_no {a b : Int} (h : a < -1000000000 ∨ 1000000000 < a ∨ b < 1 ∨ 1000000000 < b) : ratB a b = false := by
  cases hr : ratB a b
  · rfl
  · have := ratB_t hr; omega
/-- the fraction n / d in lowest terms and the code 0, or the code 2 -/
def mkT (n d : Int) : Int × Int × Int := if ratB (lowN n d) (lowD n d) then (lowN n d, lowD n d, 0) else (0, 0, 2)
theorem mkT_of {n d p q : Int} (hd : ¬ d = 0) (h : ratB p q = true) (e : p * d = n * q) : mkT n d = (p, q, 0) := by
  obtain ⟨_, _, h3, _, h5⟩ := ratB_t h
  obtain ⟨e1, e2⟩ := low_uniq hd h5 (by omega) e
  unfold mkT
  rw [e1, e2, h]; rfl
theorem mkT_0 {n d : Int} (h : (mkT n d).2.2 = 0) : ratB (mkT n d).1 (mkT n d).2.1 = true ∧ (mkT n d).1 = lowN n d ∧ (mkT n d).2.1 = lowD n d := by
  unfold mkT at h ⊢
  split at h
  · rename_i g; rw [if_pos g]; exact ⟨g, rfl, rfl⟩
  · cases h
theorem mkT_val {n d : Int} (h : (mkT n d).2.2 = 0) : (mkT n d).1 * d = n * (mkT n d).2.1 := by
  obtain ⟨_, e1, e2⟩ := mkT_0 h
  rw [e1, e2]; exact low_value n d
/-- the sum, the product, the mediant, the inverse -/
def addT (a b c d : Int) : Int × Int × Int := if ratB a b && ratB c d then mkT (a * d + c * b) (b * d) else (0, 0, 1)
def mulT (a b c d : Int) : Int × Int × Int := if ratB a b && ratB c d then mkT (a * c) (b * d) else (0, 0, 1)
def medT (a b c d : Int) : Int × Int × Int := if ratB a b && ratB c d then mkT (a + c) (b + d) else (0, 0, 1)
def invT (a b : Int) : Int × Int × Int := if ratB a b then (if a = 0 then (0, 0, 5) else mkT b a) else (0, 0, 1)
/-- less, equal, greater -/
def sgn (x y : Int) : Int := if x < y then -1 else if y < x then 1 else 0
def cmpV (a b c d : Int) : Int := if ratB a b && ratB c d then sgn (a * d) (c * b) else 0
def cmpC (a b c d : Int) : Int := if ratB a b && ratB c d then 0 else 1
theorem inv_back {a b : Int} (h : (invT a b).2.2 = 0) : invT (invT a b).1 (invT a b).2.1 = (a, b, 0) ∧ mulT a b (invT a b).1 (invT a b).2.1 = (1, 1, 0) := by
  cases hr : ratB a b
  · unfold invT at h; rw [hr] at h; cases h
  · obtain ⟨a1, a2, b1, b2, g⟩ := ratB_t hr
    by_cases ha : a = 0
    · unfold invT at h; rw [hr, if_pos ha] at h; cases h
    · have e : invT a b = mkT b a := by unfold invT; rw [hr, if_neg ha]; rfl
      rw [e] at h ⊢
      have hv := mkT_val h
      obtain ⟨hr2, _, _⟩ := mkT_0 h
      generalize (mkT b a).1 = p at *
      generalize (mkT b a).2.1 = q at *
      obtain ⟨p1, p2, q1, q2, g2⟩ := ratB_t hr2
      have hp : ¬ p = 0 := by
        intro h0; subst h0
        have := Int.mul_pos (show 0 < b by omega) (show 0 < q by omega); omega
      have hbq : ¬ b * q = 0 := by
        have := Int.mul_pos (show 0 < b by omega) (show 0 < q by omega); omega
      constructor
      · unfold invT
        rw [hr2, if_neg hp]
        exact mkT_of hp hr (by rw [Int.mul_comm a p, hv, Int.mul_comm])
      · unfold mulT
        rw [hr, hr2]
        exact mkT_of hbq (by decide) (by rw [Int.one_mul, Int.mul_one, ← hv, Int.mul_comm])
theorem add_back {a b c d : Int} (h : (addT a b c d).2.2 = 0) : addT (addT a b c d).1 (addT a b c d).2.1 (-c) d = (a, b, 0) := by
  cases hr : (ratB a b && ratB c d)
  · unfold addT at h; rw [hr] at h; cases h
  · have e : addT a b c d = mkT (a * d + c * b) (b * d) := by unfold addT; rw [hr]; rfl
    rw [e] at h ⊢
    rw [Bool.and_eq_true] at hr
    obtain ⟨ha, hc⟩ := hr
    obtain ⟨a1, a2, b1, b2, ga⟩ := ratB_t ha
    obtain ⟨c1, c2, d1, d2, gd⟩ := ratB_t hc
    have hbd := Int.mul_pos (show 0 < b by omega) (show 0 < d by omega)
    have hv := mkT_val h
    obtain ⟨hr2, _, _⟩ := mkT_0 h
    generalize (mkT (a * d + c * b) (b * d)).1 = p at *
    generalize (mkT (a * d + c * b) (b * d)).2.1 = q at *
    obtain ⟨p1, p2, q1, q2, g2⟩ := ratB_t hr2
    have hm : ratB (-c) d = true := by
      have e : gc (-c) d = gc c d := by unfold gc Int.gcd; simp
      rw [ratB_mk (by omega) (by omega) (by omega) (by omega), e, gd]; rfl
    have hqd := Int.mul_pos (show 0 < q by omega) (show 0 < d by omega)
    unfold addT
    rw [hr2, hm]
    refine mkT_of (by omega) ha ?_
    -- a * (q * d) = (p * d + -c * q) * b
    rw [Int.add_mul] at hv ⊢
    have e1 : p * (b * d) = p * d * b := by rw [Int.mul_assoc, Int.mul_comm d b]
    have e2 : a * d * q = a * (q * d) := by rw [Int.mul_assoc, Int.mul_comm d q]
    have e3 : -c * q * b = -(c * b * q) := by rw [Int.neg_mul, Int.neg_mul, Int.mul_assoc, Int.mul_comm q b, ← Int.mul_assoc]
    rw [e3]
    omega
theorem sgn_scale {x y g : Int} (hg : 0 < g) : sgn (g * x) (g * y) = sgn x y := by
  unfold sgn
  have e1 : g * x < g * y ↔ x < y := Int.mul_lt_mul_left hg
  have e2 : g * y < g * x ↔ y < x := Int.mul_lt_mul_left hg
  simp only [e1, e2]
theorem sgn_add (x y z : Int) : sgn (z + x) (z + y) = sgn x y := by
  unfold sgn
  have e1 : z + x < z + y ↔ x < y := by omega
  have e2 : z + y < z + x ↔ y < x := by omega
  simp only [e1, e2]
theorem sgn_anti (x y : Int) : sgn y x = -(sgn x y) := by
  unfold sgn
  split <;> split <;> first | omega | (split <;> omega)
/-- the mediant lies between -/
theorem med_mid {a b c d : Int} (h : (medT a b c d).2.2 = 0) : cmpC a b (medT a b c d).1 (medT a b c d).2.1 = 0 ∧ cmpC (medT a b c d).1 (medT a b c d).2.1 c d = 0 ∧ cmpC a b c d = 0 ∧
    cmpV a b (medT a b c d).1 (medT a b c d).2.1 = cmpV a b c d ∧ cmpV (medT a b c d).1 (medT a b c d).2.1 c d = cmpV a b c d := by
  cases hr : (ratB a b && ratB c d)
  · unfold medT at h; rw [hr] at h; cases h
  · have e : medT a b c d = mkT (a + c) (b + d) := by unfold medT; rw [hr]; rfl
    rw [e] at h ⊢
    have hrr := hr
    rw [Bool.and_eq_true] at hr
    obtain ⟨ha, hc⟩ := hr
    obtain ⟨a1, a2, b1, b2, ga⟩ := ratB_t ha
    obtain ⟨c1, c2, d1, d2, gd⟩ := ratB_t hc
    obtain ⟨hr2, e1, e2⟩ := mkT_0 h
    have hbd : ¬ b + d = 0 := by omega
    obtain ⟨m1, m2⟩ := low_mul (a + c) (b + d)
    have hg : 0 < sgc (a + c) (b + d) := by
      have := gc_pos (a := a + c) hbd
      unfold sgc; rw [if_neg (by omega)]; exact this
    rw [← e1] at m1
    rw [← e2] at m2
    generalize (mkT (a + c) (b + d)).1 = p at *
    generalize (mkT (a + c) (b + d)).2.1 = q at *
    generalize sgc (a + c) (b + d) = g at *
    refine ⟨by unfold cmpC; rw [ha, hr2]; rfl, by unfold cmpC; rw [hr2, hc]; rfl, by unfold cmpC; rw [ha, hc]; rfl, ?_, ?_⟩
    · unfold cmpV
      rw [ha, hr2, hc]
      show sgn (a * q) (p * b) = sgn (a * d) (c * b)
      rw [← sgn_scale hg, Int.mul_left_comm g a q, m2, ← Int.mul_assoc g p b, m1, Int.mul_add, Int.add_mul, sgn_add]
    · unfold cmpV
      rw [ha, hr2, hc]
      show sgn (p * d) (c * q) = sgn (a * d) (c * b)
      rw [← sgn_scale hg, Int.mul_left_comm g c q, m2, ← Int.mul_assoc g p d, m1, Int.mul_add, Int.add_mul, Int.add_comm (a * d), Int.add_comm (c * b), sgn_add]
end Go.Proofs.YtcaekheghjnipabDoor.Num
