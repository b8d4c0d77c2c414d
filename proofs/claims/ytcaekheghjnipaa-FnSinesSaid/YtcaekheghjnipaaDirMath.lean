/- Plain facts on directions: three numbers with the first squared and the second squared adding up to the third squared, in lowest terms. No condition but those that each states. -/
import Derived.Test.YtcaekheghjnipaaRatMath
namespace Go.Proofs.Ytcaekheghjnipaa.Num
set_option linter.unusedVariables false
/-- the divisor of all three -/
def g3 (c s h : Int) : Int := gc (gc c s) h
theorem gc_dl (a b : Int) : gc a b ∣ a := Int.gcd_dvd_left a b
theorem gc_dr (a b : Int) : gc a b ∣ b := Int.gcd_dvd_right a b
theorem dvd_gc {a b g : Int} (h1 : g ∣ a) (h2 : g ∣ b) : g ∣ gc a b := Int.dvd_coe_gcd h1 h2
theorem g3_1 (c s h : Int) : g3 c s h ∣ c := Int.dvd_trans (gc_dl _ _) (gc_dl _ _)
theorem g3_2 (c s h : Int) : g3 c s h ∣ s := Int.dvd_trans (gc_dl _ _) (gc_dr _ _)
theorem g3_3 (c s h : Int) : g3 c s h ∣ h := gc_dr _ _
theorem g3_pos {c s h : Int} (h0 : ¬ h = 0) : 0 < g3 c s h := gc_pos h0
theorem g3_neg (c s h : Int) : g3 c (-s) h = g3 c s h := by unfold g3 gc; rw [Int.gcd_neg]
theorem g3_mul {g c s h : Int} (hg : 0 ≤ g) : g3 (g * c) (g * s) (g * h) = g * g3 c s h := by
  unfold g3 gc
  rw [Int.gcd_mul_left, Int.natCast_mul, Int.natAbs_of_nonneg hg, Int.gcd_mul_left, Int.natCast_mul, Int.natAbs_of_nonneg hg]
/-- the direction is valid -/
def dirB (c s h : Int) : Bool := decide (1 ≤ h) && decide (h ≤ 1000) && decide (1 ≤ c) && decide (c ≤ h) && decide (-h ≤ s) && decide (s ≤ h) && decide (¬ s = 0) && decide (c * c + s * s = h * h) && decide (g3 c s h = 1)
structure DirOk (c s h : Int) : Prop where
  h1 : 1 ≤ h
  h2 : h ≤ 1000
  c1 : 1 ≤ c
  c2 : c ≤ h
  s1 : -h ≤ s
  s2 : s ≤ h
  s0 : ¬ s = 0
  py : c * c + s * s = h * h
  gg : g3 c s h = 1
theorem dirB_t {c s h : Int} (e : dirB c s h = true) : DirOk c s h := by
  unfold dirB at e
  simp only [Bool.and_eq_true, decide_eq_true_eq] at e
  obtain ⟨⟨⟨⟨⟨⟨⟨⟨a1, a2⟩, a3⟩, a4⟩, a5⟩, a6⟩, a7⟩, a8⟩, a9⟩ := e
  exact ⟨a1, a2, a3, a4, a5, a6, a7, a8, a9⟩
theorem DirOk.b {c s h : Int} (o : DirOk c s h) : dirB c s h = true := by
  unfold dirB
  simp only [Bool.and_eq_true, decide_eq_true_eq]
  exact ⟨⟨⟨⟨⟨⟨⟨⟨o.h1, o.h2⟩, o.c1⟩, o.c2⟩, o.s1⟩, o.s2⟩, o.s0⟩, o.py⟩, o.gg⟩
theorem dirB_f {c s h : Int} (n : ¬ DirOk c s h) : dirB c s h = false := by
  cases e : dirB c s h
  · rfl
  · exact absurd (dirB_t e) n
theorem DirOk.mir {c s h : Int} (o : DirOk c s h) : DirOk c (-s) h :=
  ⟨o.h1, o.h2, o.c1, o.c2, by have := o.s2; omega, by have := o.s1; omega, by have := o.s0; omega, by rw [Int.neg_mul_neg]; exact o.py, by rw [g3_neg]; exact o.gg⟩
theorem dirB_mir (c s h : Int) : dirB c (-s) h = dirB c s h := by
  cases e : dirB c s h
  · refine dirB_f fun o => ?_
    have := o.mir
    rw [Int.neg_neg] at this
    rw [this.b] at e; cases e
  · exact (dirB_t e).mir.b
/-- squares -/
theorem sq_lt {a b : Int} (ha : 0 ≤ a) (h : a < b) : a * a < b * b := by
  have h1 := Int.mul_le_mul_of_nonneg_right (show a ≤ b by omega) ha
  have h2 := Int.mul_lt_mul_of_pos_left h (show 0 < b by omega)
  omega
theorem sq_nn (a : Int) : 0 ≤ a * a := by
  rcases Int.le_total 0 a with l | l
  · exact Int.mul_nonneg l l
  · exact Int.mul_nonneg_of_nonpos_of_nonpos l l
theorem sq_le {a b : Int} (ha : 0 ≤ a) (hb : 0 ≤ b) (h : a * a ≤ b * b) : a ≤ b := by
  rcases Int.lt_or_le b a with l | l
  · have := sq_lt hb l
    omega
  · exact l
/-- the first number lies below the third, the second beside -/
theorem py_le {c s h : Int} (h1 : 1 ≤ h) (c1 : 1 ≤ c) (py : c * c + s * s = h * h) : c ≤ h ∧ -h ≤ s ∧ s ≤ h := by
  have e1 := sq_nn s
  have e2 := sq_nn c
  have e3 : s * s = (s.natAbs : Int) * (s.natAbs : Int) := by
    rcases Int.le_total 0 s with l | l
    · rw [Int.natAbs_of_nonneg l]
    · have : (s.natAbs : Int) = -s := by omega
      rw [this, Int.neg_mul_neg]
  have l1 := sq_le (by omega : (0 : Int) ≤ c) (by omega : (0 : Int) ≤ h) (by omega)
  have l2 := sq_le (by omega : (0 : Int) ≤ (s.natAbs : Int)) (by omega : (0 : Int) ≤ h) (by omega)
  omega
theorem DirOk.cop {c s h : Int} (o : DirOk c s h) : gc c h = 1 := by
  have hp : 0 < gc c h := gc_pos (by have := o.h1; omega)
  obtain ⟨a, ha⟩ := gc_dl c h
  obtain ⟨b, hb⟩ := gc_dr c h
  have e : s * s = (gc c h) * (gc c h) * (b * b - a * a) := by
    have py := o.py
    have e1 : c * c = (gc c h) * (gc c h) * (a * a) := by
      calc c * c = (gc c h * a) * (gc c h * a) := by rw [← ha]
        _ = _ := by simp only [Int.mul_assoc, Int.mul_left_comm, Int.mul_comm]
    have e2 : h * h = (gc c h) * (gc c h) * (b * b) := by
      calc h * h = (gc c h * b) * (gc c h * b) := by rw [← hb]
        _ = _ := by simp only [Int.mul_assoc, Int.mul_left_comm, Int.mul_comm]
    rw [Int.mul_sub, ← e1, ← e2]; omega
  have d : gc c h ∣ s := by
    have : (gc c h) ^ 2 ∣ s ^ 2 := ⟨b * b - a * a, by rw [Int.pow_succ, Int.pow_succ, Int.pow_zero, Int.pow_succ, Int.pow_succ, Int.pow_zero, Int.one_mul, Int.one_mul]; exact e⟩
    exact (Int.pow_dvd_pow_iff (by decide)).1 this
  have d3 : gc c h ∣ g3 c s h := dvd_gc (dvd_gc (gc_dl _ _) d) (gc_dr _ _)
  rw [o.gg] at d3
  have := Int.le_of_dvd (by decide) d3
  omega
/-- equally flat: the same or mirrored -/
theorem flat_iff {c s h x y z : Int} (o : DirOk c s h) (p : DirOk x y z) : (c * z = x * h) ↔ ((x = c ∧ y = s ∧ z = h) ∨ (x = c ∧ y = -s ∧ z = h)) := by
  constructor
  · intro e
    obtain ⟨e1, e2⟩ := cop_uniq o.cop p.cop (by have := o.h1; omega) (by have := p.h1; omega) e
    subst e1 e2
    have hs : y * y = s * s := by have a := o.py; have b := p.py; omega
    have : (y - s) * (y + s) = 0 := by
      rw [Int.sub_mul, Int.mul_add, Int.mul_add, Int.mul_comm s y]; omega
    rcases Int.mul_eq_zero.1 this with f | f
    · exact .inl ⟨rfl, by omega, rfl⟩
    · exact .inr ⟨rfl, by omega, rfl⟩
  · rintro (⟨rfl, rfl, rfl⟩ | ⟨rfl, rfl, rfl⟩) <;> rfl
/-- lowest terms of three numbers -/
def lw (g x : Int) : Int := x.tdiv g
theorem lw_mul {g x : Int} (h : g ∣ x) : g * lw g x = x := Int.mul_tdiv_cancel' h
theorem lw_1 (x : Int) : lw 1 x = x := Int.tdiv_one x
theorem lw_ne {g x : Int} (hx : 0 < x) (hg : 0 < g) (h1 : ¬ g = 1) (h : g ∣ x) : ¬ lw g x = x := by
  intro e
  have := lw_mul h
  rw [e] at this
  have := Int.mul_le_mul_of_nonneg_right (show (2 : Int) ≤ g by omega) (show (0 : Int) ≤ x by omega)
  omega
theorem lw_pos {g x : Int} (hg : 0 < g) (hx : 0 < x) (h : g ∣ x) : 0 < lw g x := by
  have e := lw_mul h
  rcases Int.lt_or_le 0 (lw g x) with l | l
  · exact l
  · have := Int.mul_nonneg_of_nonpos_of_nonpos (show -g ≤ 0 by omega) l
    rw [Int.neg_mul] at this; omega
theorem lw_le {g x : Int} (hg : 0 < g) (hx : 0 < x) (h : g ∣ x) : lw g x ≤ x := by
  have e := lw_mul h
  have p := lw_pos hg hx h
  have := Int.mul_le_mul_of_nonneg_right (show (1 : Int) ≤ g by omega) (show (0 : Int) ≤ lw g x by omega)
  omega
theorem lw_neg (g x : Int) : lw g (-x) = -(lw g x) := Int.neg_tdiv _ _
/-- the divisor of the three numbers of m and n -/
def mg (m n : Int) : Int := g3 (n * n - m * m) (2 * m * n) (n * n + m * m)
def mc (m n : Int) : Int := lw (mg m n) (n * n - m * m)
def ms (m n : Int) : Int := lw (mg m n) (2 * m * n)
def mh (m n : Int) : Int := lw (mg m n) (n * n + m * m)
/-- m and n are within the bounds -/
def mnB (m n : Int) : Bool := decide (1 ≤ m) && decide (m < n) && decide (n ≤ 1000) && decide (n * n + m * m ≤ 1000)
theorem mnB_t {m n : Int} (h : mnB m n = true) : 1 ≤ m ∧ m < n ∧ n ≤ 1000 ∧ n * n + m * m ≤ 1000 := by
  unfold mnB at h
  simpa only [Bool.and_eq_true, decide_eq_true_eq, and_assoc] using h
theorem mn_pos {m n : Int} (h : mnB m n = true) : 0 < n * n - m * m ∧ 0 < 2 * m * n ∧ 0 < n * n + m * m ∧ n * n ≤ 1000 ∧ 0 < m * m ∧ 2 * m * n ≤ 1000 := by
  obtain ⟨h1, h2, h3, h4⟩ := mnB_t h
  have a : m * m < n * n := sq_lt (by omega) h2
  have b : 0 < m * n := Int.mul_pos (by omega) (by omega)
  have c : 0 < m * m := Int.mul_pos (by omega) (by omega)
  have e := sq_nn (n - m)
  rw [Int.sub_mul, Int.mul_sub, Int.mul_sub, Int.mul_comm n m] at e
  rw [Int.mul_assoc]
  omega
theorem mn_py (m n : Int) : (n * n - m * m) * (n * n - m * m) + (2 * m * n) * (2 * m * n) = (n * n + m * m) * (n * n + m * m) := by
  have : (2 * m * n) * (2 * m * n) = 4 * ((n * n) * (m * m)) := by
    rw [show (4 : Int) = 2 * 2 by decide]; simp only [Int.mul_assoc, Int.mul_left_comm, Int.mul_comm]
  rw [this]
  obtain ⟨a, ha⟩ : ∃ a, n * n = a := ⟨_, rfl⟩
  obtain ⟨b, hb⟩ : ∃ b, m * m = b := ⟨_, rfl⟩
  rw [ha, hb, Int.sub_mul, Int.mul_sub, Int.mul_sub, Int.add_mul, Int.mul_add, Int.mul_add, Int.mul_comm b a]
  omega
theorem mn_ok {m n : Int} (h : mnB m n = true) : DirOk (mc m n) (ms m n) (mh m n) := by
  obtain ⟨p1, p2, p3, p4, p5, p6⟩ := mn_pos h
  have q := (mnB_t h).2.2.2
  have hg : 0 < mg m n := g3_pos (by omega)
  have d1 := g3_1 (n * n - m * m) (2 * m * n) (n * n + m * m)
  have d2 := g3_2 (n * n - m * m) (2 * m * n) (n * n + m * m)
  have d3 := g3_3 (n * n - m * m) (2 * m * n) (n * n + m * m)
  have e1 : mg m n * mc m n = n * n - m * m := lw_mul d1
  have e2 : mg m n * ms m n = 2 * m * n := lw_mul d2
  have e3 : mg m n * mh m n = n * n + m * m := lw_mul d3
  have c1 : 0 < mc m n := lw_pos hg p1 d1
  have s1 : 0 < ms m n := lw_pos hg p2 d2
  have h1 : 0 < mh m n := lw_pos hg p3 d3
  have h2 : mh m n ≤ n * n + m * m := lw_le hg p3 d3
  have py : mc m n * mc m n + ms m n * ms m n = mh m n * mh m n := by
    have e := mn_py m n
    rw [← e1, ← e2, ← e3] at e
    have f : ∀ x : Int, (mg m n * x) * (mg m n * x) = (mg m n * mg m n) * (x * x) := fun x => by simp only [Int.mul_assoc, Int.mul_left_comm, Int.mul_comm]
    rw [f, f, f, ← Int.mul_add] at e
    exact Int.eq_of_mul_eq_mul_left (Int.ne_of_gt (Int.mul_pos hg hg)) e
  obtain ⟨l1, l2, l3⟩ := py_le (by omega) (by omega) py
  have gg : g3 (mc m n) (ms m n) (mh m n) = 1 := by
    have e : mg m n = mg m n * g3 (mc m n) (ms m n) (mh m n) := by
      rw [← g3_mul (by omega), e1, e2, e3]; rfl
    have e' : mg m n * g3 (mc m n) (ms m n) (mh m n) = mg m n * 1 := by rw [← e, Int.mul_one]
    exact Int.eq_of_mul_eq_mul_left (by omega) e'
  exact ⟨by omega, by omega, by omega, l1, l2, l3, by omega, py, gg⟩
/-- the made direction, and the code -/
def mdT (m n : Int) (d : Bool) : Int × Int × Int × Int := if mnB m n then (mc m n, if d then ms m n else -(ms m n), mh m n, 0) else (0, 0, 0, 2)
/-- less is steeper -/
def cdV (c s h x y z : Int) : Int := if dirB c s h && dirB x y z then sgn (c * z) (x * h) else 0
def cdC (c s h x y z : Int) : Int := if dirB c s h && dirB x y z then 0 else 1
theorem mul_cancel_lt {g a b : Int} (hg : 0 < g) (h : g * a < g * b) : a < b := Int.lt_of_mul_lt_mul_left h (by omega)
theorem made_steeper {m n : Int} (h : mnB m n = true) (k : mnB (m + 1) n = true) : mc (m + 1) n * mh m n < mc m n * mh (m + 1) n := by
  obtain ⟨p1, p2, p3, p4, p5, p6⟩ := mn_pos h
  obtain ⟨q1, q2, q3, q4, q5, q6⟩ := mn_pos k
  have hg : 0 < mg m n := g3_pos (by omega)
  have hk : 0 < mg (m + 1) n := g3_pos (by omega)
  have e1 : mg m n * mc m n = n * n - m * m := lw_mul (g3_1 _ _ _)
  have e3 : mg m n * mh m n = n * n + m * m := lw_mul (g3_3 _ _ _)
  have f1 : mg (m + 1) n * mc (m + 1) n = n * n - (m + 1) * (m + 1) := lw_mul (g3_1 _ _ _)
  have f3 : mg (m + 1) n * mh (m + 1) n = n * n + (m + 1) * (m + 1) := lw_mul (g3_3 _ _ _)
  refine mul_cancel_lt (Int.mul_pos hg hk) ?_
  have a1 : mg m n * mg (m + 1) n * (mc (m + 1) n * mh m n) = (n * n - (m + 1) * (m + 1)) * (n * n + m * m) := by
    rw [← f1, ← e3]; simp only [Int.mul_assoc, Int.mul_left_comm, Int.mul_comm]
  have a2 : mg m n * mg (m + 1) n * (mc m n * mh (m + 1) n) = (n * n - m * m) * (n * n + (m + 1) * (m + 1)) := by
    rw [← e1, ← f3]; simp only [Int.mul_assoc, Int.mul_left_comm, Int.mul_comm]
  rw [a1, a2]
  have hm : m * m < (m + 1) * (m + 1) := by rw [Int.add_mul, Int.mul_add]; have := (mnB_t h).1; omega
  obtain ⟨N, hN⟩ : ∃ a, n * n = a := ⟨_, rfl⟩
  obtain ⟨a, ha⟩ : ∃ a, m * m = a := ⟨_, rfl⟩
  obtain ⟨b, hb⟩ : ∃ b, (m + 1) * (m + 1) = b := ⟨_, rfl⟩
  rw [hN, ha, hb]
  rw [ha, hb] at hm
  have hNp : 0 < N := by omega
  have := Int.mul_lt_mul_of_pos_left hm hNp
  rw [Int.sub_mul, Int.mul_add, Int.mul_add, Int.sub_mul, Int.mul_add, Int.mul_add, Int.mul_comm b N, Int.mul_comm b a, Int.mul_comm a N]
  omega
end Go.Proofs.Ytcaekheghjnipaa.Num
