/- Plain facts on integers: quotients rounded down and up, the nearest integer, in Go's own quotient and remainder. No condition but those that each states. Plain facts on integers: greatest common divisors, fractions in lowest terms. No condition but those that each states. Plain facts on directions: three numbers with the first squared and the second squared adding up to the third squared, in lowest terms. No condition but those that each states. The integer square root: the greatest integer whose square is at most n. Plain facts. -/

namespace Go.Proofs.YtgecbfbmmbfnmaaGreat.Num
theorem tdiv_bd (a b : Int) : -(a.natAbs : Int) ≤ a.tdiv b ∧ a.tdiv b ≤ a.natAbs := by
  have h : (a.tdiv b).natAbs = a.natAbs / b.natAbs := Int.natAbs_tdiv a b
  have h2 := Nat.div_le_self a.natAbs b.natAbs
  omega
theorem tmod_sgn (a b : Int) : (0 ≤ a → 0 ≤ a.tmod b) ∧ (a ≤ 0 → a.tmod b ≤ 0) := by
  refine ⟨fun h => Int.tmod_nonneg b h, fun h => ?_⟩
  have h1 := Int.tmod_nonneg (a := -a) b (by omega)
  rw [Int.neg_tmod] at h1; omega
theorem tmod_abs (a b : Int) (hb : b ≠ 0) : (a.tmod b).natAbs < b.natAbs := by
  rw [Int.natAbs_tmod]; exact Nat.mod_lt _ (by omega)
/-- floor division out of Go's quotient and remainder -/
theorem fdiv_same (a b : Int) (h : a.tmod b = 0) : a.fdiv b = a.tdiv b := by
  rw [Int.fdiv_eq_tdiv, if_pos (Int.dvd_of_tmod_eq_zero h)]; omega
theorem fdiv_alike (a b : Int) (hr : a.tmod b ≠ 0) (h : decide (a.tmod b < 0) = decide (b < 0)) : a.fdiv b = a.tdiv b := by
  have s := tmod_sgn a b
  rw [Int.fdiv_eq_tdiv, if_neg (fun h => hr (Int.tmod_eq_zero_of_dvd h))]
  have hh : (a.tmod b < 0 ↔ b < 0) := by simpa using h
  by_cases h0 : 0 ≤ a
  · rw [if_pos h0, if_pos (by have := s.1 h0; omega)]; omega
  · have := s.2 (by omega)
    rw [if_neg h0, if_neg (by omega), Int.sign_eq_neg_one_of_neg (by omega)]; omega
theorem fdiv_unlike (a b : Int) (hb : b ≠ 0) (hr : a.tmod b ≠ 0) (h : decide (a.tmod b < 0) ≠ decide (b < 0)) : a.fdiv b = a.tdiv b - 1 := by
  have s := tmod_sgn a b
  rw [Int.fdiv_eq_tdiv, if_neg (fun h => hr (Int.tmod_eq_zero_of_dvd h))]
  have hh : ¬ (a.tmod b < 0 ↔ b < 0) := by simpa using h
  by_cases h0 : 0 ≤ a
  · rw [if_pos h0, if_neg (by have := s.1 h0; omega)]
  · have := s.2 (by omega)
    rw [if_neg h0, if_pos (by omega), Int.sign_eq_one_of_pos (by omega)]
theorem fdiv_bd (a b : Int) : -(a.natAbs : Int) - 1 ≤ a.fdiv b ∧ a.fdiv b ≤ a.natAbs := by
  have h := tdiv_bd a b
  by_cases hb : b = 0
  · subst hb; simp; omega
  by_cases h0 : a.tmod b = 0
  · rw [fdiv_same a b h0]; omega
  · by_cases h1 : decide (a.tmod b < 0) = decide (b < 0)
    · rw [fdiv_alike a b h0 h1]; omega
    · rw [fdiv_unlike a b hb h0 h1]; omega
end Go.Proofs.YtgecbfbmmbfnmaaGreat.Num
namespace Go.Proofs.YtgecbfbmmbfnmaaGreat.Num
/-- the greatest common divisor -/
def gc (a b : Int) : Int := (Int.gcd a b : Int)
theorem gc_step (a b : Int) : gc b (a.tmod b) = gc a b := by
  unfold gc Int.gcd
  rw [Int.natAbs_tmod, Nat.gcd_comm b.natAbs, ← Nat.gcd_rec, Nat.gcd_comm]
theorem gc_zero (a : Int) : gc a 0 = (a.natAbs : Int) := by unfold gc Int.gcd; simp
theorem gc_abs (a b : Int) : gc (a.natAbs : Int) (b.natAbs : Int) = gc a b := by unfold gc Int.gcd; simp
theorem gc_pos {a b : Int} (h : ¬ b = 0) : 0 < gc a b := by
  have : Int.gcd a b ≠ 0 := fun e => h (Int.gcd_eq_zero_iff.1 e).2
  unfold gc; omega
theorem gc_le {a b : Int} (h : ¬ b = 0) : gc a b ≤ (b.natAbs : Int) := by
  have := Nat.le_of_dvd (by omega) (Nat.gcd_dvd_right a.natAbs b.natAbs)
  have e : gc a b = ((Nat.gcd a.natAbs b.natAbs : Nat) : Int) := rfl
  omega
theorem cop_dvd {p q x : Int} (h : gc p q = 1) (e : q ∣ p * x) : q ∣ x := by
  have hc : Nat.Coprime q.natAbs p.natAbs := by
    have : Int.gcd p q = 1 := by unfold gc at h; omega
    unfold Nat.Coprime; rw [Nat.gcd_comm]; exact this
  have e2 := Int.natAbs_dvd_natAbs.2 e
  rw [Int.natAbs_mul] at e2
  exact Int.natAbs_dvd_natAbs.1 (hc.dvd_of_dvd_mul_left e2)
/-- lowest terms are the only ones -/
theorem cop_uniq {p q x y : Int} (h : gc p q = 1) (g : gc x y = 1) (hq : 0 < q) (hy : 0 < y) (e : p * y = x * q) : x = p ∧ y = q := by
  have d1 : q ∣ y := cop_dvd h ⟨x, by rw [e, Int.mul_comm]⟩
  have d2 : y ∣ q := cop_dvd g ⟨p, by rw [← e, Int.mul_comm]⟩
  have l1 := Int.le_of_dvd hy d1
  have l2 := Int.le_of_dvd hq d2
  have : y = q := by omega
  subst this
  exact ⟨(Int.eq_of_mul_eq_mul_right (by omega) e).symm, rfl⟩
end Go.Proofs.YtgecbfbmmbfnmaaGreat.Num
namespace Go.Proofs.YtgecbfbmmbfnmaaGreat.Num
set_option linter.unusedVariables false
/-- the divisor of all three -/
def g3 (c s h : Int) : Int := gc (gc c s) h
theorem gc_dl (a b : Int) : gc a b ∣ a := Int.gcd_dvd_left a b
theorem gc_dr (a b : Int) : gc a b ∣ b := Int.gcd_dvd_right a b
theorem dvd_gc {a b g : Int} (h1 : g ∣ a) (h2 : g ∣ b) : g ∣ gc a b := Int.dvd_coe_gcd h1 h2
theorem g3_1 (c s h : Int) : g3 c s h ∣ c := Int.dvd_trans (gc_dl _ _) (gc_dl _ _)
theorem g3_2 (c s h : Int) : g3 c s h ∣ s := Int.dvd_trans (gc_dl _ _) (gc_dr _ _)
theorem g3_3 (c s h : Int) : g3 c s h ∣ h := gc_dr _ _
theorem g3_pos {c s h : Int} (h0 : ¬ h = 0) : 0 < g3 c s h := gc_pos h0
theorem g3_mul {g c s h : Int} (hg : 0 ≤ g) : g3 (g * c) (g * s) (g * h) = g * g3 c s h := by
  unfold g3 gc
  rw [Int.gcd_mul_left, Int.natCast_mul, Int.natAbs_of_nonneg hg, Int.gcd_mul_left, Int.natCast_mul, Int.natAbs_of_nonneg hg]
/-- the direction is valid -/
def dirB (c s h : Int) : Bool := decide (1 ≤ h) && decide (h ≤ 1000) && decide (1 ≤ c) && decide (c ≤ h) && decide (-h ≤ s) && decide (s ≤ h) && decide (¬ s = 0) && decide (c * c + s * s = h * h) && decide (g3 c s h = 1)
structure DirOk (c s h : Int) : Prop where
  h1 : 1 ≤ h
  h2 : h ≤ 1000
  c1 : 1 ≤ c
  c2 : c ≤ h
  s1 : -h ≤ s
  s2 : s ≤ h
  s0 : ¬ s = 0
  py : c * c + s * s = h * h
  gg : g3 c s h = 1
theorem dirB_t {c s h : Int} (e : dirB c s h = true) : DirOk c s h := by
  unfold dirB at e
  simp only [Bool.and_eq_true, decide_eq_true_eq] at e
  obtain ⟨⟨⟨⟨⟨⟨⟨⟨a1, a2⟩, a3⟩, a4⟩, a5⟩, a6⟩, a7⟩, a8⟩, a9⟩ := e
  exact ⟨a1, a2, a3, a4, a5, a6, a7, a8, a9⟩
theorem DirOk.b {c s h : Int} (o : DirOk c s h) : dirB c s h = true := by
  unfold dirB
  simp only [Bool.and_eq_true, decide_eq_true_eq]
  exact ⟨⟨⟨⟨⟨⟨⟨⟨o.h1, o.h2⟩, o.c1⟩, o.c2⟩, o.s1⟩, o.s2⟩, o.s0⟩, o.py⟩, o.gg⟩
theorem dirB_f {c s h : Int} (n : ¬ DirOk c s h) : dirB c s h = false := by
  cases e : dirB c s h
  · rfl
  · exact absurd (dirB_t e) n
/-- squares -/
theorem sq_lt {a b : Int} (ha : 0 ≤ a) (h : a < b) : a * a < b * b := by
  have h1 := Int.mul_le_mul_of_nonneg_right (show a ≤ b by omega) ha
  have h2 := Int.mul_lt_mul_of_pos_left h (show 0 < b by omega)
  omega
theorem sq_nn (a : Int) : 0 ≤ a * a := by
  rcases Int.le_total 0 a with l | l
  · exact Int.mul_nonneg l l
  · exact Int.mul_nonneg_of_nonpos_of_nonpos l l
theorem sq_le {a b : Int} (ha : 0 ≤ a) (hb : 0 ≤ b) (h : a * a ≤ b * b) : a ≤ b := by
  rcases Int.lt_or_le b a with l | l
  · have := sq_lt hb l
    omega
  · exact l
/-- the first number lies below the third, the second beside -/
theorem py_le {c s h : Int} (h1 : 1 ≤ h) (c1 : 1 ≤ c) (py : c * c + s * s = h * h) : c ≤ h ∧ -h ≤ s ∧ s ≤ h := by
  have e1 := sq_nn s
  have e2 := sq_nn c
  have e3 : s * s = (s.natAbs : Int) * (s.natAbs : Int) := by
    rcases Int.le_total 0 s with l | l
    · rw [Int.natAbs_of_nonneg l]
    · have : (s.natAbs : Int) = -s := by omega
      rw [this, Int.neg_mul_neg]
  have l1 := sq_le (by omega : (0 : Int) ≤ c) (by omega : (0 : Int) ≤ h) (by omega)
  have l2 := sq_le (by omega : (0 : Int) ≤ (s.natAbs : Int)) (by omega : (0 : Int) ≤ h) (by omega)
  omega
theorem DirOk.cop {c s h : Int} (o : DirOk c s h) : gc c h = 1 := by
  have hp : 0 < gc c h := gc_pos (by have := o.h1; omega)
  obtain ⟨a, ha⟩ := gc_dl c h
  obtain ⟨b, hb⟩ := gc_dr c h
  have e : s * s = (gc c h) * (gc c h) * (b * b - a * a) := by
    have py := o.py
    have e1 : c * c = (gc c h) * (gc c h) * (a * a) := by
      calc c * c = (gc c h * a) * (gc c h * a) := by rw [← ha]
        _ = _ := by simp only [Int.mul_assoc, Int.mul_left_comm, Int.mul_comm]
    have e2 : h * h = (gc c h) * (gc c h) * (b * b) := by
      calc h * h = (gc c h * b) * (gc c h * b) := by rw [← hb]
        _ = _ := by simp only [Int.mul_assoc, Int.mul_left_comm, Int.mul_comm]
    rw [Int.mul_sub, ← e1, ← e2]; omega
  have d : gc c h ∣ s := by
    have : (gc c h) ^ 2 ∣ s ^ 2 := ⟨b * b - a * a, by rw [Int.pow_succ, Int.pow_succ, Int.pow_zero, Int.pow_succ, Int.pow_succ, Int.pow_zero, Int.one_mul, Int.one_mul]; exact e⟩
    exact (Int.pow_dvd_pow_iff (by decide)).1 this
  have d3 : gc c h ∣ g3 c s h := dvd_gc (dvd_gc (gc_dl _ _) d) (gc_dr _ _)
  rw [o.gg] at d3
  have := Int.le_of_dvd (by decide) d3
  omega
/-- equally flat: the same or mirrored -/
theorem flat_iff {c s h x y z : Int} (o : DirOk c s h) (p : DirOk x y z) : (c * z = x * h) ↔ ((x = c ∧ y = s ∧ z = h) ∨ (x = c ∧ y = -s ∧ z = h)) := by
  constructor
  · intro e
    obtain ⟨e1, e2⟩ := cop_uniq o.cop p.cop (by have := o.h1; omega) (by have := p.h1; omega) e
    subst e1 e2
    have hs : y * y = s * s := by have a := o.py; have b := p.py; omega
    have : (y - s) * (y + s) = 0 := by
      rw [Int.sub_mul, Int.mul_add, Int.mul_add, Int.mul_comm s y]; omega
    rcases Int.mul_eq_zero.1 this with f | f
    · exact .inl ⟨rfl, by omega, rfl⟩
    · exact .inr ⟨rfl, by omega, rfl⟩
  · rintro (⟨rfl, rfl, rfl⟩ | ⟨rfl, rfl, rfl⟩) <;> rfl
/-- lowest terms of three numbers -/
def lw (g x : Int) : Int := x.tdiv g
theorem lw_mul {g x : Int} (h : g ∣ x) : g * lw g x = x := Int.mul_tdiv_cancel' h
theorem lw_1 (x : Int) : lw 1 x = x := Int.tdiv_one x
theorem lw_ne {g x : Int} (hx : 0 < x) (hg : 0 < g) (h1 : ¬ g = 1) (h : g ∣ x) : ¬ lw g x = x := by
  intro e
  have := lw_mul h
  rw [e] at this
  have := Int.mul_le_mul_of_nonneg_right (show (2 : Int) ≤ g by omega) (show (0 : Int) ≤ x by omega)
  omega
theorem lw_pos {g x : Int} (hg : 0 < g) (hx : 0 < x) (h : g ∣ x) : 0 < lw g x := by
  have e := lw_mul h
  rcases Int.lt_or_le 0 (lw g x) with l | l
  · exact l
  · have := Int.mul_nonneg_of_nonpos_of_nonpos (show -g ≤ 0 by omega) l
    rw [Int.neg_mul] at this; omega
theorem lw_le {g x : Int} (hg : 0 < g) (hx : 0 < x) (h : g ∣ x) : lw g x ≤ x := by
  have e := lw_mul h
  have p := lw_pos hg hx h
  have := Int.mul_le_mul_of_nonneg_right (show (1 : Int) ≤ g by omega) (show (0 : Int) ≤ lw g x by omega)
  omega
/-- the divisor of the three numbers of m and n -/
def mg (m n : Int) : Int := g3 (n * n - m * m) (2 * m * n) (n * n + m * m)
def mc (m n : Int) : Int := lw (mg m n) (n * n - m * m)
def ms (m n : Int) : Int := lw (mg m n) (2 * m * n)
def mh (m n : Int) : Int := lw (mg m n) (n * n + m * m)
/-- m and n are within the bounds -/
def mnB (m n : Int) : Bool := decide (1 ≤ m) && decide (m < n) && decide (n ≤ 1000) && decide (n * n + m * m ≤ 1000)
theorem mnB_t {m n : Int} (h : mnB m n = true) : 1 ≤ m ∧ m < n ∧ n ≤ 1000 ∧ n * n + m * m ≤ 1000 := by
  unfold mnB at h
  simpa only [Bool.and_eq_true, decide_eq_true_eq, and_assoc] using h
theorem mn_pos {m n : Int} (h : mnB m n = true) : 0 < n * n - m * m ∧ 0 < 2 * m * n ∧ 0 < n * n + m * m ∧ n * n ≤ 1000 ∧ 0 < m * m ∧ 2 * m * n ≤ 1000 := by
  obtain ⟨h1, h2, h3, h4⟩ := mnB_t h
  have a : m * m < n * n := sq_lt (by omega) h2
  have b : 0 < m * n := Int.mul_pos (by omega) (by omega)
  have c : 0 < m * m := Int.mul_pos (by omega) (by omega)
  have e := sq_nn (n - m)
  rw [Int.sub_mul, Int.mul_sub, Int.mul_sub, Int.mul_comm n m] at e
  rw [Int.mul_assoc]
  omega
theorem mn_py (m n : Int) : (n * n - m * m) * (n * n - m * m) + (2 * m * n) * (2 * m * n) = (n * n + m * m) * (n * n + m * m) := by
  have : (2 * m * n) * (2 * m * n) = 4 * ((n * n) * (m * m)) := by
    rw [show (4 : Int) = 2 * 2 by decide]; simp only [Int.mul_assoc, Int.mul_left_comm, Int.mul_comm]
  rw [this]
  obtain ⟨a, ha⟩ : ∃ a, n * n = a := ⟨_, rfl⟩
  obtain ⟨b, hb⟩ : ∃ b, m * m = b := ⟨_, rfl⟩
  rw [ha, hb, Int.sub_mul, Int.mul_sub, Int.mul_sub, Int.add_mul, Int.mul_add, Int.mul_add, Int.mul_comm b a]
  omega
theorem mn_ok {m n : Int} (h : mnB m n = true) : DirOk (mc m n) (ms m n) (mh m n) := by
  obtain ⟨p1, p2, p3, p4, p5, p6⟩ := mn_pos h
  have q := (mnB_t h).2.2.2
  have hg : 0 < mg m n := g3_pos (by omega)
  have d1 := g3_1 (n * n - m * m) (2 * m * n) (n * n + m * m)
  have d2 := g3_2 (n * n - m * m) (2 * m * n) (n * n + m * m)
  have d3 := g3_3 (n * n - m * m) (2 * m * n) (n * n + m * m)
  have e1 : mg m n * mc m n = n * n - m * m := lw_mul d1
  have e2 : mg m n * ms m n = 2 * m * n := lw_mul d2
  have e3 : mg m n * mh m n = n * n + m * m := lw_mul d3
  have c1 : 0 < mc m n := lw_pos hg p1 d1
  have s1 : 0 < ms m n := lw_pos hg p2 d2
  have h1 : 0 < mh m n := lw_pos hg p3 d3
  have h2 : mh m n ≤ n * n + m * m := lw_le hg p3 d3
  have py : mc m n * mc m n + ms m n * ms m n = mh m n * mh m n := by
    have e := mn_py m n
    rw [← e1, ← e2, ← e3] at e
    have f : ∀ x : Int, (mg m n * x) * (mg m n * x) = (mg m n * mg m n) * (x * x) := fun x => by simp only [Int.mul_assoc, Int.mul_left_comm, Int.mul_comm]
    rw [f, f, f, ← Int.mul_add] at e
    exact Int.eq_of_mul_eq_mul_left (Int.ne_of_gt (Int.mul_pos hg hg)) e
  obtain ⟨l1, l2, l3⟩ := py_le (by omega) (by omega) py
  have gg : g3 (mc m n) (ms m n) (mh m n) = 1 := by
    have e : mg m n = mg m n * g3 (mc m n) (ms m n) (mh m n) := by
      rw [← g3_mul (by omega), e1, e2, e3]; rfl
    have e' : mg m n * g3 (mc m n) (ms m n) (mh m n) = mg m n * 1 := by rw [← e, Int.mul_one]
    exact Int.eq_of_mul_eq_mul_left (by omega) e'
  exact ⟨by omega, by omega, by omega, l1, l2, l3, by omega, py, gg⟩
/-- the made direction, and the code -/
def mdT (m n : Int) (d : Bool) : Int × Int × Int × Int := if mnB m n then (mc m n, if d then ms m n else -(ms m n), mh m n, 0) else (0, 0, 0, 2)
end Go.Proofs.YtgecbfbmmbfnmaaGreat.Num
namespace Go.Proofs.YtgecbfbmmbfnmaaGreat.Num
def rtN : Nat → Nat
  | 0 => 0
  | n + 1 => if (rtN n + 1) * (rtN n + 1) ≤ n + 1 then rtN n + 1 else rtN n
theorem rtN_spec (n : Nat) : rtN n * rtN n ≤ n ∧ n < (rtN n + 1) * (rtN n + 1) := by
  induction n with
  | zero => simp [rtN]
  | succ n ih =>
    obtain ⟨h1, h2⟩ := ih
    unfold rtN
    split
    · rename_i h
      refine ⟨h, ?_⟩
      have : (rtN n + 1 + 1) * (rtN n + 1 + 1) = (rtN n + 1) * (rtN n + 1) + 2 * (rtN n + 1) + 1 := by
        rw [Nat.add_mul, Nat.mul_add]; omega
      omega
    · rename_i h; omega
/-- the root of an integer of at least 0 -/
def rt (n : Int) : Int := (rtN n.toNat : Int)
theorem rt_nonneg (n : Int) : 0 ≤ rt n := by unfold rt; omega
theorem rt_sq (n : Int) (h : 0 ≤ n) : rt n * rt n ≤ n ∧ n < (rt n + 1) * (rt n + 1) := by
  have g := rtN_spec n.toNat
  unfold rt
  have e1 : ((rtN n.toNat : Int) * (rtN n.toNat : Int)) = ((rtN n.toNat * rtN n.toNat : Nat) : Int) := by simp
  have e2 : (((rtN n.toNat : Int) + 1) * ((rtN n.toNat : Int) + 1)) = (((rtN n.toNat + 1) * (rtN n.toNat + 1) : Nat) : Int) := by simp
  rw [e1, e2]; omega
theorem rsq_lt {a b : Int} (ha : 0 ≤ a) (h : a < b) : a * a < b * b := by
  have h1 := Int.mul_le_mul_of_nonneg_left (show a + 1 ≤ b by omega) (show 0 ≤ b by omega)
  have h2 := Int.mul_le_mul_of_nonneg_right (show a ≤ b by omega) ha
  rw [Int.mul_add] at h1
  omega
theorem rsq_le {a b : Int} (ha : 0 ≤ a) (h : a ≤ b) : a * a ≤ b * b :=
  Int.mul_le_mul h h ha (by omega)
theorem rt_unique {n r : Int} (hr : 0 ≤ r) (h1 : r * r ≤ n) (h2 : n < (r + 1) * (r + 1)) : rt n = r := by
  have hn : 0 ≤ n := Int.le_trans (Int.mul_nonneg hr hr) h1
  have g := rt_sq n hn
  have g0 := rt_nonneg n
  rcases Int.lt_trichotomy (rt n) r with h | h | h
  · have := rsq_le (a := rt n + 1) (b := r) (by omega) (by omega); omega
  · exact h
  · have := rsq_le (a := r + 1) (b := rt n) (by omega) (by omega); omega
theorem rt_le {n : Int} (h0 : 0 ≤ n) (h : n ≤ 4000000000000000000) : rt n ≤ 2000000000 := by
  have g := rt_sq n h0
  by_cases c : rt n ≤ 2000000000
  · exact c
  · have := rsq_le (a := 2000000001) (b := rt n) (by omega) (by omega); omega
end Go.Proofs.YtgecbfbmmbfnmaaGreat.Num
