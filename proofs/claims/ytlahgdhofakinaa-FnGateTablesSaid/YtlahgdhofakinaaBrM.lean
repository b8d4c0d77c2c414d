/- What the functions of bearings and tracks compute, and what the laws on them say of these numbers. -/
import Derived.Test.YtlahgdhofakinaaMth
import Derived.Test.YtlahgdhofakinaaBas
namespace Go.Proofs.Ytlahgdhofakinaa
open Num
set_option linter.unusedVariables false
/-- coordinates within a limit; a bearing -/
def ptB (m x y : Int) : Bool := inB x (-m) m && inB y (-m) m
def brB (x y : Int) : Bool := ptB 1000 x y && !(x == 0 && y == 0)
def sg1 (n : Int) : Int := if 0 < n then 1 else if n < 0 then -1 else 0
def crs (a b c d : Int) : Int := a * d - b * c
def dt2 (a b c d : Int) : Int := a * c + b * d
def hlf (x y : Int) : Int := if x < 0 then 1 else if x = 0 ∧ y < 0 then 1 else 0
theorem ptB_t {m x y : Int} (h : ptB m x y = true) : -m ≤ x ∧ x ≤ m ∧ -m ≤ y ∧ y ≤ m := by
  unfold ptB at h
  rw [Bool.and_eq_true] at h
  have a := inB_t h.1
  have b := inB_t h.2
  omega
theorem ptB_mk {m x y : Int} (h : -m ≤ x) (g : x ≤ m) (h2 : -m ≤ y) (g2 : y ≤ m) : ptB m x y = true := by
  unfold ptB; rw [inB_mk h g, inB_mk h2 g2]; rfl
theorem brB_t {x y : Int} (h : brB x y = true) : (-1000 ≤ x ∧ x ≤ 1000 ∧ -1000 ≤ y ∧ y ≤ 1000) ∧ ¬ (x = 0 ∧ y = 0) := by
  unfold brB at h
  rw [Bool.and_eq_true] at h
  refine ⟨ptB_t h.1, ?_⟩
  rintro ⟨rfl, rfl⟩
  simp at h
theorem brB_z : brB 0 0 = false := by decide
theorem brB_neg (x y : Int) : brB (-x) (-y) = brB x y := by
  unfold brB ptB inB
  rw [Bool.eq_iff_iff]
  simp
  omega
theorem sg1_neg (n : Int) : sg1 (-n) = -sg1 n := by unfold sg1; split <;> split <;> (try split) <;> omega
theorem sg1_pos {n : Int} (h : 0 < n) : sg1 n = 1 := by unfold sg1; rw [if_pos h]
theorem sg1_lt {n : Int} (h : n < 0) : sg1 n = -1 := by unfold sg1; rw [if_neg (by omega), if_pos h]
theorem sg1_zero {n : Int} (h : n = 0) : sg1 n = 0 := by subst h; rfl
theorem sg1_bd (n : Int) : -1 ≤ sg1 n ∧ sg1 n ≤ 1 := by unfold sg1; split <;> (try split) <;> omega
theorem sqr_nn (a : Int) : 0 ≤ a * a := by
  rcases Int.le_total 0 a with h | h
  · exact Int.mul_nonneg h h
  · exact Int.mul_nonneg_of_nonpos_of_nonpos h h
theorem sqr_z {a : Int} (h : a * a = 0) : a = 0 := by
  rcases Int.mul_eq_zero.1 h with h | h <;> exact h
theorem crs_neg (a b c d : Int) : crs (-a) (-b) c d = -crs a b c d := by unfold crs; grind
theorem crs_swap (a b c d : Int) : crs c d a b = -crs a b c d := by unfold crs; grind
/-- the side of a point; the order of two bearings -/
def sdC (px py ux uy qx qy : Int) : Int := if ptB 100000 px py && brB ux uy && ptB 100000 qx qy then 0 else 1
def sdV (px py ux uy qx qy : Int) : Int := if ptB 100000 px py && brB ux uy && ptB 100000 qx qy then -sg1 (crs ux uy (qx - px) (qy - py)) else 0
theorem sd_other {px py ux uy qx qy : Int} (h : sdC px py ux uy qx qy = 0) : sdC px py (-ux) (-uy) qx qy = 0 ∧ sdV px py (-ux) (-uy) qx qy = -sdV px py ux uy qx qy := by
  unfold sdC at h
  split at h
  · rename_i g
    have g2 : (ptB 100000 px py && brB (-ux) (-uy) && ptB 100000 qx qy) = true := by rw [brB_neg]; exact g
    unfold sdC sdV
    rw [if_pos g2, if_pos g2, if_pos g, crs_neg, sg1_neg]
    exact ⟨rfl, rfl⟩
  · cases h
def cbC (a b c d : Int) : Int := if brB a b && brB c d then 0 else 1
def cbV (a b c d : Int) : Int := if brB a b && brB c d then (if hlf a b = hlf c d then sg1 (crs a b c d) else hlf a b - hlf c d) else 0
theorem cb_back (a b c d : Int) : cbC c d a b = cbC a b c d ∧ cbV c d a b = -cbV a b c d := by
  unfold cbC cbV
  rw [Bool.and_comm (brB c d)]
  refine ⟨rfl, ?_⟩
  split
  · by_cases h : hlf a b = hlf c d
    · rw [if_pos h, if_pos h.symm, crs_swap, sg1_neg]
    · rw [if_neg h, if_neg (fun e => h e.symm)]; omega
  · rfl
/-- a fraction whose error is ErrLimit -/
def rlT (n d : Int) : Int × Int × Int := if (mkT n d).2.2 = 0 then mkT n d else (0, 0, 3)
theorem rlT_0 {n d : Int} (h : (rlT n d).2.2 = 0) : (mkT n d).2.2 = 0 ∧ rlT n d = mkT n d := by
  unfold rlT at h ⊢
  split at h
  · rename_i g; exact ⟨g, by rw [if_pos g]⟩
  · cases h
theorem mkT_code (n d : Int) : (mkT n d).2.2 = 0 ∨ mkT n d = (0, 0, 2) := by
  unfold mkT; split
  · exact .inl rfl
  · exact .inr rfl
theorem rlT_code (n d : Int) : (rlT n d).2.2 = 0 ∨ rlT n d = (0, 0, 3) := by
  unfold rlT; split
  · rename_i g; exact .inl g
  · exact .inr rfl
theorem mkT_neg {n d : Int} (h : ¬ d = 0) : mkT (-n) (-d) = mkT n d := by
  obtain ⟨e1, e2⟩ := low_uniq (n := -n) (d := -d) (by omega) (low_cop (n := n) h) (low_pos h) (by have := low_value n d; grind)
  unfold mkT
  rw [e1, e2]
theorem rlT_neg {n d : Int} (h : ¬ d = 0) : rlT (-n) (-d) = rlT n d := by unfold rlT; rw [mkT_neg h]
/-- a fix -/
def cfB (px py ux uy qx qy vx vy : Int) : Bool := ptB 100000 px py && brB ux uy && ptB 100000 qx qy && brB vx vy
def cfD (ux uy vx vy : Int) : Int := crs ux uy vx vy
def cfX (px py ux uy qx qy vx vy : Int) : Int × Int × Int := rlT (px * crs ux uy vx vy + ux * crs (qx - px) (qy - py) vx vy) (crs ux uy vx vy)
def cfY (px py ux uy qx qy vx vy : Int) : Int × Int × Int := rlT (py * crs ux uy vx vy + uy * crs (qx - px) (qy - py) vx vy) (crs ux uy vx vy)
def cfN (px py ux uy qx qy vx vy : Int) : Prop := crs (qx - px) (qy - py) vx vy * crs ux uy vx vy < 0 ∨ crs (qx - px) (qy - py) ux uy * crs ux uy vx vy < 0
instance (px py ux uy qx qy vx vy : Int) : Decidable (cfN px py ux uy qx qy vx vy) := by unfold cfN; infer_instance
def cfT (px py ux uy qx qy vx vy : Int) : Int × Int × Int × Int × Int :=
  if cfB px py ux uy qx qy vx vy then
    if crs ux uy vx vy = 0 then (0, 0, 0, 0, 5) else
    if cfN px py ux uy qx qy vx vy then (0, 0, 0, 0, 4) else
    if (cfX px py ux uy qx qy vx vy).2.2 = 0 ∧ (cfY px py ux uy qx qy vx vy).2.2 = 0 then
      ((cfX px py ux uy qx qy vx vy).1, (cfX px py ux uy qx qy vx vy).2.1, (cfY px py ux uy qx qy vx vy).1, (cfY px py ux uy qx qy vx vy).2.1, 0)
    else (0, 0, 0, 0, 3)
  else (0, 0, 0, 0, 1)
theorem cfB_swap (px py ux uy qx qy vx vy : Int) : cfB qx qy vx vy px py ux uy = cfB px py ux uy qx qy vx vy := by
  unfold cfB
  cases ptB 100000 px py <;> cases brB ux uy <;> cases ptB 100000 qx qy <;> cases brB vx vy <;> rfl
theorem cfX_swap {px py ux uy qx qy vx vy : Int} (h : ¬ crs ux uy vx vy = 0) : cfX qx qy vx vy px py ux uy = cfX px py ux uy qx qy vx vy := by
  unfold cfX
  rw [show qx * crs vx vy ux uy + vx * crs (px - qx) (py - qy) ux uy = -(px * crs ux uy vx vy + ux * crs (qx - px) (qy - py) vx vy) by unfold crs; grind, crs_swap ux uy vx vy]
  exact rlT_neg h
theorem cfY_swap {px py ux uy qx qy vx vy : Int} (h : ¬ crs ux uy vx vy = 0) : cfY qx qy vx vy px py ux uy = cfY px py ux uy qx qy vx vy := by
  unfold cfY
  rw [show qy * crs vx vy ux uy + vy * crs (px - qx) (py - qy) ux uy = -(py * crs ux uy vx vy + uy * crs (qx - px) (qy - py) vx vy) by unfold crs; grind, crs_swap ux uy vx vy]
  exact rlT_neg h
theorem cfN_swap (px py ux uy qx qy vx vy : Int) : cfN qx qy vx vy px py ux uy ↔ cfN px py ux uy qx qy vx vy := by
  unfold cfN
  rw [show crs (px - qx) (py - qy) ux uy * crs vx vy ux uy = crs (qx - px) (qy - py) ux uy * crs ux uy vx vy by unfold crs; grind,
    show crs (px - qx) (py - qy) vx vy * crs vx vy ux uy = crs (qx - px) (qy - py) vx vy * crs ux uy vx vy by unfold crs; grind]
  exact Or.comm
/-- exchanging both observers -/
theorem cfT_swap (px py ux uy qx qy vx vy : Int) : cfT qx qy vx vy px py ux uy = cfT px py ux uy qx qy vx vy := by
  unfold cfT
  rw [cfB_swap]
  by_cases h : crs ux uy vx vy = 0
  · rw [if_pos h, if_pos (show crs vx vy ux uy = 0 by rw [crs_swap]; omega)]
  · rw [if_neg h, if_neg (show ¬ crs vx vy ux uy = 0 by rw [crs_swap]; omega), cfX_swap h, cfY_swap h]
    simp only [cfN_swap]
theorem mul_z {a d : Int} (h : a * d = 0) (hd : ¬ d = 0) : a = 0 := by
  rcases Int.mul_eq_zero.1 h with h | h
  · exact h
  · exact absurd h hd
/-- a fix lies on the first line -/
theorem cfT_on {px py ux uy qx qy vx vy : Int} (h : (cfT px py ux uy qx qy vx vy).2.2.2.2 = 0) :
    ux * ((cfT px py ux uy qx qy vx vy).2.2.1 * (cfT px py ux uy qx qy vx vy).2.1 - py * (cfT px py ux uy qx qy vx vy).2.1 * (cfT px py ux uy qx qy vx vy).2.2.2.1) -
      uy * ((cfT px py ux uy qx qy vx vy).1 * (cfT px py ux uy qx qy vx vy).2.2.2.1 - px * (cfT px py ux uy qx qy vx vy).2.1 * (cfT px py ux uy qx qy vx vy).2.2.2.1) = 0 := by
  unfold cfT at h ⊢
  split at h
  · rename_i g1
    rw [if_pos g1]
    split at h
    · cases h
    · rename_i g2
      rw [if_neg g2]
      split at h
      · cases h
      · rename_i g3
        rw [if_neg g3]
        split at h
        · rename_i g4
          rw [if_pos g4]
          obtain ⟨x1, x2⟩ := rlT_0 g4.1
          obtain ⟨y1, y2⟩ := rlT_0 g4.2
          have ex := mkT_val x1
          have ey := mkT_val y1
          rw [← x2] at ex
          rw [← y2] at ey
          change (cfX px py ux uy qx qy vx vy).1 * _ = _ * (cfX px py ux uy qx qy vx vy).2.1 at ex
          change (cfY px py ux uy qx qy vx vy).1 * _ = _ * (cfY px py ux uy qx qy vx vy).2.1 at ey
          clear x1 x2 y1 y2 g4 h g1 g3
          generalize (cfX px py ux uy qx qy vx vy).1 = xn at *
          generalize (cfX px py ux uy qx qy vx vy).2.1 = xd at *
          generalize (cfY px py ux uy qx qy vx vy).1 = yn at *
          generalize (cfY px py ux uy qx qy vx vy).2.1 = yd at *
          generalize crs (qx - px) (qy - py) vx vy = T at *
          generalize crs ux uy vx vy = D at *
          refine mul_z (d := D) ?_ g2
          grind
        · cases h
  · cases h
/-- tracks: valid ones; the position, the closest time and square, the drift, whether they meet -/
def tkB (x y sx sy : Int) : Bool := ptB 100000 x y && ptB 1000 sx sy
def poT (x y sx sy t : Int) : Int × Int × Int :=
  if tkB x y sx sy then (if inB t 0 1000 then (if ptB 100000 (x + t * sx) (y + t * sy) then (x + t * sx, y + t * sy, 0) else (0, 0, 3)) else (0, 0, 2)) else (0, 0, 1)
def ctT (rx ry wx wy : Int) : Int × Int × Int := if wx = 0 ∧ wy = 0 then (0, 0, 5) else rlT (if dt2 rx ry wx wy < 0 then -dt2 rx ry wx wy else 0) (dt2 wx wy wx wy)
def lsN (rx ry wx wy : Int) : Int := if 0 ≤ dt2 rx ry wx wy then dt2 rx ry rx ry else crs rx ry wx wy * crs rx ry wx wy
def lsD (rx ry wx wy : Int) : Int := if 0 ≤ dt2 rx ry wx wy then 1 else dt2 wx wy wx wy
def bdV (rx ry wx wy t : Int) : Int := sg1 (crs wx wy (rx + t * wx) (ry + t * wy))
theorem bdV_t (rx ry wx wy t : Int) : bdV rx ry wx wy 0 = bdV rx ry wx wy t ∧ bdV (-rx) (-ry) (-wx) (-wy) t = bdV rx ry wx wy t := by
  unfold bdV
  constructor
  · congr 1; unfold crs; grind
  · congr 1; unfold crs; grind
theorem bdV_turn (rx ry wx wy t : Int) : -sg1 (crs (rx + t * wx) (ry + t * wy) wx wy) = bdV rx ry wx wy t := by
  unfold bdV
  rw [crs_swap wx wy, sg1_neg, Int.neg_neg]
theorem dt2_nn (x y : Int) : 0 ≤ dt2 x y x y := by unfold dt2; have := sqr_nn x; have := sqr_nn y; omega
theorem dt2_z {x y : Int} (h : dt2 x y x y = 0) : x = 0 ∧ y = 0 := by
  unfold dt2 at h
  have a := sqr_nn x
  have b := sqr_nn y
  exact ⟨sqr_z (by omega), sqr_z (by omega)⟩
theorem lsD_pos (rx ry wx wy : Int) : 0 < lsD rx ry wx wy := by
  unfold lsD
  split
  · omega
  · rename_i h
    have a := dt2_nn wx wy
    by_cases h0 : dt2 wx wy wx wy = 0
    · obtain ⟨rfl, rfl⟩ := dt2_z h0
      exact absurd (show 0 ≤ dt2 rx ry 0 0 by unfold dt2; simp) h
    · omega
theorem lsN_nn (rx ry wx wy : Int) : 0 ≤ lsN rx ry wx wy := by
  unfold lsN
  split
  · exact dt2_nn _ _
  · exact sqr_nn _
/-- the model's test of a meeting -/
theorem meet_eq (rx ry wx wy : Int) : (lsN rx ry wx wy == 0) = ((rx == 0 && ry == 0) || ((crs rx ry wx wy == 0) && decide (dt2 rx ry wx wy < 0))) := by
  unfold lsN
  split
  · rename_i h
    rw [show decide (dt2 rx ry wx wy < 0) = false from decide_eq_false (by omega), Bool.and_false, Bool.or_false, Bool.eq_iff_iff]
    simp only [Bool.and_eq_true, beq_iff_eq]
    constructor
    · exact fun e => dt2_z e
    · rintro ⟨rfl, rfl⟩; rfl
  · rename_i h
    rw [show decide (dt2 rx ry wx wy < 0) = true from decide_eq_true (by omega), Bool.and_true, Bool.eq_iff_iff]
    simp only [Bool.or_eq_true, Bool.and_eq_true, beq_iff_eq]
    constructor
    · exact fun e => .inr (sqr_z e)
    · rintro (⟨rfl, rfl⟩ | e)
      · exact absurd (show 0 ≤ dt2 0 0 wx wy by unfold dt2; simp) h
      · rw [e]; rfl
/-- no later time is closer -/
theorem ls_least (rx ry wx wy t : Int) (ht : 0 ≤ t) : lsN rx ry wx wy ≤ ((rx + t * wx) * (rx + t * wx) + (ry + t * wy) * (ry + t * wy)) * lsD rx ry wx wy := by
  unfold lsN lsD
  split
  · rename_i h
    have h1 := Int.mul_nonneg ht h
    have h2 := sqr_nn (t * wx)
    have h3 := sqr_nn (t * wy)
    unfold dt2 at *
    grind
  · have h3 := sqr_nn ((rx + t * wx) * wx + (ry + t * wy) * wy)
    unfold dt2 crs at *
    grind
theorem ratio_le {S n d p q : Int} (hd : 0 < d) (hq : 0 < q) (e : p * d = n * q) (h : n ≤ S * d) : p ≤ S * q := by
  have h1 := Int.mul_le_mul_of_nonneg_right h (show 0 ≤ q by omega)
  rw [← e] at h1
  exact Int.le_of_mul_le_mul_right (a := d) (by grind) hd
theorem ctT_nn {rx ry wx wy : Int} (h : (ctT rx ry wx wy).2.2 = 0) : 0 ≤ (ctT rx ry wx wy).1 := by
  unfold ctT at h ⊢
  split at h
  · cases h
  · rename_i g
    rw [if_neg g]
    obtain ⟨x1, x2⟩ := rlT_0 h
    have ex := mkT_val x1
    rw [x2]
    obtain ⟨hr, -, -⟩ := mkT_0 x1
    obtain ⟨a1, a2, b1, b2, -⟩ := ratB_t hr
    generalize (mkT _ _).1 = p at *
    generalize (mkT _ _).2.1 = q at *
    have hd : 0 < dt2 wx wy wx wy := by
      have := dt2_nn wx wy
      by_cases h0 : dt2 wx wy wx wy = 0
      · exact absurd (dt2_z h0) g
      · omega
    have hn : 0 ≤ (if dt2 rx ry wx wy < 0 then -dt2 rx ry wx wy else 0) := by split <;> omega
    rcases Int.lt_or_le p 0 with hp | hp
    · have h1 := Int.mul_nonneg hn (show 0 ≤ q by omega)
      have h2 := Int.mul_neg_of_neg_of_pos hp hd
      omega
    · exact hp
/-- the least square as a fraction: zero exactly if they meet, and no time from 0 on is closer -/
theorem cs_facts {rx ry wx wy : Int} (h : (rlT (lsN rx ry wx wy) (lsD rx ry wx wy)).2.2 = 0) :
    ((rlT (lsN rx ry wx wy) (lsD rx ry wx wy)).1 == 0) = (lsN rx ry wx wy == 0) ∧
    (0 ≤ (rlT (lsN rx ry wx wy) (lsD rx ry wx wy)).1 ∧ (rlT (lsN rx ry wx wy) (lsD rx ry wx wy)).1 ≤ 1000000000) ∧
    (1 ≤ (rlT (lsN rx ry wx wy) (lsD rx ry wx wy)).2.1 ∧ (rlT (lsN rx ry wx wy) (lsD rx ry wx wy)).2.1 ≤ lsD rx ry wx wy) ∧
    ∀ t, 0 ≤ t → (rlT (lsN rx ry wx wy) (lsD rx ry wx wy)).1 ≤ ((rx + t * wx) * (rx + t * wx) + (ry + t * wy) * (ry + t * wy)) * (rlT (lsN rx ry wx wy) (lsD rx ry wx wy)).2.1 := by
  obtain ⟨x1, x2⟩ := rlT_0 h
  have ex := mkT_val x1
  obtain ⟨hr, -, hden⟩ := mkT_0 x1
  obtain ⟨a1, a2, b1, b2, -⟩ := ratB_t hr
  rw [x2]
  have hd := lsD_pos rx ry wx wy
  have hn := lsN_nn rx ry wx wy
  have hl := fun t ht => ls_least rx ry wx wy t ht
  have hdv : lowD (lsN rx ry wx wy) (lsD rx ry wx wy) ≤ lsD rx ry wx wy := by
    have e := (low_mul (lsN rx ry wx wy) (lsD rx ry wx wy)).2
    exact Int.le_of_dvd hd ⟨_, by rw [Int.mul_comm]; exact e.symm⟩
  rw [← hden] at hdv
  clear x1 x2 hr hden
  generalize (mkT _ _).1 = p at *
  generalize (mkT _ _).2.1 = q at *
  generalize lsN rx ry wx wy = N at *
  generalize lsD rx ry wx wy = D at *
  have hp : 0 ≤ p := by
    rcases Int.lt_or_le p 0 with hp | hp
    · have h1 := Int.mul_nonneg hn (show 0 ≤ q by omega)
      have h2 := Int.mul_neg_of_neg_of_pos hp hd
      omega
    · exact hp
  refine ⟨?_, ⟨hp, a2⟩, ⟨b1, hdv⟩, fun t ht => ratio_le hd (by omega) ex (hl t ht)⟩
  rw [Bool.eq_iff_iff]
  simp only [beq_iff_eq]
  constructor
  · rintro rfl
    exact mul_z (d := q) (by omega) (by omega)
  · rintro rfl
    exact mul_z (d := D) (by omega) (by omega)
end Go.Proofs.Ytlahgdhofakinaa
