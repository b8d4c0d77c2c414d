/- Arcs in a layer: the facts behind the laws of crossings, turnings and radii. -/
import Derived.Test.YtgecbfbmmbfnmaaArcM
namespace Go.Proofs.Ytgecbfbmmbfnmaa
open Go.ChangeShapes Go.WideShapes Go.ChangeAt Go.RowKit Go.Shelf Num
set_option linter.unusedVariables false

theorem mmc (a b c d : Int) : a * b * (c * d) = a * c * (b * d) := by rw [Int.mul_assoc, Int.mul_left_comm b, ← Int.mul_assoc]
theorem steep_dir : dirB 9 40 41 = true := by decide +kernel
theorem acod_ray {zs ys : List Int} {src c s h l : Int} (e : acod zs ys src c s h l = 0) : ∃ i j : Nat, src = (i : Int) ∧ l = (j : Int) ∧ j + 1 < zs.length ∧ RyOk zs ys i c s h := by
  obtain ⟨hv, od, ⟨i, rfl, hi⟩, ⟨j, rfl, hj⟩⟩ := acod_0 e
  exact ⟨i, j, rfl, rfl, hj, Okp.of hv, od, hi⟩
theorem acod_steep {zs ys : List Int} {src c s h l : Int} (e : acod zs ys src c s h l = 0) (c' s' h' : Int) (hd : dirB c' s' h' = true) : acod zs ys src c' s' h' l = 0 := by
  obtain ⟨h1, h2, h3, h4⟩ := rcT_0 e
  unfold acod rcT
  rw [h1, h3, h4, hd]; rfl
theorem vdV_1 {ys : List Int} {i n f : Nat} {c h : Int} (e : vdV ys i c h n f = 1) : crB ys (i : Int) c h (n : Int) = true ∧ crB ys (i : Int) c h (f : Int) = true := by
  unfold vdV at e
  cases h1 : crB ys (i : Int) c h (n : Int) <;> cases h2 : crB ys (i : Int) c h (f : Int) <;> rw [h1, h2] at e <;> simp at e
  exact ⟨rfl, rfl⟩
theorem vdV_2 {ys : List Int} {i n f : Nat} {c h : Int} (e : vdV ys i c h n f = 2) : crB ys (i : Int) c h (n : Int) = true ∧ crB ys (i : Int) c h (f : Int) = false := by
  unfold vdV at e
  cases h1 : crB ys (i : Int) c h (n : Int) <;> cases h2 : crB ys (i : Int) c h (f : Int) <;> rw [h1, h2] at e <;> simp at e
  exact ⟨rfl, rfl⟩
theorem vdV_cases (ys : List Int) (i n f : Nat) (c h : Int) : vdV ys i c h n f = 0 ∨ vdV ys i c h n f = 1 ∨ vdV ys i c h n f = 2 := by
  unfold vdV
  cases crB ys (i : Int) c h (n : Int) <;> cases crB ys (i : Int) c h (f : Int) <;> simp
theorem vdV_swap (ys : List Int) (i n f : Nat) (c h : Int) : (vdV ys i c h n f = 1) ↔ (vdV ys i c h f n = 1) := by
  unfold vdV
  cases crB ys (i : Int) c h (n : Int) <;> cases crB ys (i : Int) c h (f : Int) <;> simp
theorem vd_both (zs ys : List Int) (src c s h l : Int) (ab : Bool) : (vdT zs ys src c s h l ab).2 = (vdT zs ys src c s h l (!ab)).2 ∧ ((vdT zs ys src c s h l ab).1 == 1) = ((vdT zs ys src c s h l (!ab)).1 == 1) := by
  unfold vdT
  by_cases e : acod zs ys src c s h l = 0
  · rw [if_pos e, if_pos e]
    refine ⟨rfl, ?_⟩
    have g : anr l.toNat (!ab) = afr l.toNat ab ∧ afr l.toNat (!ab) = anr l.toNat ab := by cases ab <;> exact ⟨rfl, rfl⟩
    rw [g.1, g.2, Bool.eq_iff_iff, beq_iff_eq, beq_iff_eq]
    exact vdV_swap ..
  · rw [if_neg e, if_neg e]; exact ⟨rfl, rfl⟩
/-- bounds of what is divided, what divides -/
theorem RyOk.crb {zs ys : List Int} {i : Nat} {c s h : Int} (r : RyOk zs ys i c s h) {l : Nat} (hl : l + 1 < zs.length) :
    0 ≤ zD zs l * (ys.getD l 0 + ys.getD (l + 1) 0) ∧ zD zs l * (ys.getD l 0 + ys.getD (l + 1) 0) ≤ 3400000000000 ∧ crN zs ys c l = c * (zD zs l * (ys.getD l 0 + ys.getD (l + 1) 0)) ∧ 0 ≤ crN zs ys c l ∧ crN zs ys c l ≤ 3400000000000000 := by
  have hz := r.z hl
  have s1 := r.ok.sge l
  have s2 := r.ok.shi l
  have s3 := r.ok.sge (l + 1)
  have s4 := r.ok.shi (l + 1)
  have m := mul_in (a := zD zs l) (b := ys.getD l 0 + ys.getD (l + 1) 0) (A := 1000000) (B := 3400000) (by omega) (by omega) (by omega) (by omega)
  have e : crN zs ys c l = c * (zD zs l * (ys.getD l 0 + ys.getD (l + 1) 0)) := by
    unfold crN
    rw [Int.mul_right_comm, Int.mul_comm]
  have m2 := mul_in (a := c) (b := zD zs l * (ys.getD l 0 + ys.getD (l + 1) 0)) (A := 1000) (B := 3400000000000) (by have := r.od.c1; omega) (by have := r.od.c2; have := r.od.h2; omega) m.1 (by omega)
  exact ⟨m.1, by omega, e, by rw [e]; exact m2.1, by rw [e]; omega⟩
/-- the sine of a steeper ray is not less, as multiples of the cosines -/
theorem sin_steep {zs ys : List Int} {i : Nat} {c s h : Int} (r : RyOk zs ys i c s h) (r' : RyOk zs ys i 9 40 41) {k : Nat} (e : crB ys (i : Int) c h (k : Int) = true) (e' : crB ys (i : Int) 9 41 (k : Int) = true) (hf : 9 * h ≤ c * 41) :
    9 * sLo ys i c h k ≤ c * sHi ys i 9 41 k := by
  have g := r.sn e
  have g' := r'.sn e'
  have h1 := sqN_eq ys i k c h
  have h1' := sqN_eq ys i k 9 41
  have hu := r.ok.sge i
  have hc := r.od.c1
  obtain ⟨L, hL⟩ : ∃ L, sLo ys i c h k = L := ⟨_, rfl⟩
  obtain ⟨H, hH⟩ : ∃ H, sHi ys i 9 41 k = H := ⟨_, rfl⟩
  rw [hL] at g ⊢
  rw [hH] at g' ⊢
  obtain ⟨N, hN⟩ : ∃ N, sqN ys (i : Int) c h (k : Int) = N := ⟨_, rfl⟩
  obtain ⟨N', hN'⟩ : ∃ N, sqN ys (i : Int) 9 41 (k : Int) = N := ⟨_, rfl⟩
  rw [hN] at g h1
  rw [hN'] at g' h1'
  obtain ⟨u, hu0⟩ : ∃ u, ys.getD i 0 = u := ⟨_, rfl⟩
  obtain ⟨v, hv0⟩ : ∃ u, ys.getD k 0 = u := ⟨_, rfl⟩
  rw [hu0] at h1 h1' hu
  rw [hv0] at h1 h1'
  have p1 : 9 * (h * u) ≤ c * (41 * u) := by
    have := Int.mul_le_mul_of_nonneg_right hf hu
    rw [Int.mul_assoc, Int.mul_assoc] at this
    exact this
  have p0 : 0 ≤ 9 * (h * u) := Int.mul_nonneg (by omega) (Int.mul_nonneg (by have := r.od.h1; omega) hu)
  have p2 := rsq_le p0 p1
  have q1 : c * (9 * v) = 9 * (c * v) := by rw [Int.mul_left_comm]
  have t1 : 9 * (h * u) * (9 * (h * u)) = 9 * 9 * (h * u * (h * u)) := mmc ..
  have t2 : c * (41 * u) * (c * (41 * u)) = c * c * (41 * u * (41 * u)) := mmc ..
  have t3 : 9 * (c * v) * (9 * (c * v)) = 9 * 9 * (c * v * (c * v)) := mmc ..
  have t4 : c * (9 * v) * (c * (9 * v)) = c * c * (9 * v * (9 * v)) := mmc ..
  rw [q1] at t4
  have t5 : c * c * N' = c * c * (41 * u * (41 * u)) - c * c * (9 * v * (9 * v)) := by rw [h1', Int.mul_sub]
  have k1 : 9 * 9 * N ≤ c * c * N' := by omega
  have k2 : 9 * L * (9 * L) = 9 * 9 * (L * L) := mmc ..
  have k3 : c * H * (c * H) = c * c * (H * H) := mmc ..
  have k4 := Int.mul_le_mul_of_nonneg_left g'.up (show 0 ≤ c * c from Int.mul_nonneg (by omega) (by omega))
  have k5 := g.lo
  rcases Int.lt_or_le (c * H) (9 * L) with l | l
  · have := rsq_lt (Int.mul_nonneg (show 0 ≤ c by omega) (show 0 ≤ H by have := g'.l1; have := g'.lh; omega)) l
    omega
  · exact l
/-- a steep ray's sines are great -/
theorem sin_big {zs ys : List Int} {i : Nat} (r : RyOk zs ys i 9 40 41) (k : Nat) (e : crB ys (i : Int) 9 41 (k : Int) = true) : 1000 ≤ sLo ys i 9 41 k := by
  have g := r.sn e
  have h1 := sqN_eq ys i k 9 41
  have u1 := r.ok.slo i r.hi
  have v1 := r.ok.sge k
  have v2 := r.ok.shi k
  have e2 := sq_dif (41 * ys.getD i 0) (9 * ys.getD k 0)
  have m := Int.mul_le_mul (show 38000000 ≤ 41 * ys.getD i 0 - 9 * ys.getD k 0 by omega) (show 53000000 ≤ 41 * ys.getD i 0 + 9 * ys.getD k 0 by omega) (by omega) (by omega)
  have hs := (rt_sq (sqN ys (i : Int) 9 41 (k : Int)) (by have := g.n1; omega)).2
  rcases Int.lt_or_le (sLo ys i 9 41 k) 1000 with l | l
  · have l2 : rt (sqN ys (i : Int) 9 41 (k : Int)) + 1 ≤ 1000 := by unfold sLo at l; omega
    have := rsq_le (a := rt (sqN ys (i : Int) 9 41 (k : Int)) + 1) (b := 1000) (by have := rt_nonneg (sqN ys (i : Int) 9 41 (k : Int)); omega) l2
    omega
  · exact l
theorem cr_order {zs ys : List Int} {i : Nat} {c s h : Int} (r : RyOk zs ys i c s h) {l : Nat} (hl : l + 1 < zs.length) (e1 : crB ys (i : Int) c h (l : Int) = true) (e2 : crB ys (i : Int) c h ((l + 1 : Nat) : Int) = true) :
    0 ≤ crLo zs ys i c h l ∧ crLo zs ys i c h l ≤ crHi zs ys i c h l := by
  have g1 := r.sn e1
  have g2 := r.sn e2
  have hN := (r.crb hl).2.2.2.1
  have a1 := g1.l1
  have a2 := g1.lh
  have a3 := g2.l1
  have a4 := g2.lh
  unfold crLo crHi
  have f1 := fdiv_anti hN (show 0 < sLo ys i c h l + sLo ys i c h (l + 1) by omega) (show sLo ys i c h l + sLo ys i c h (l + 1) ≤ sHi ys i c h l + sHi ys i c h (l + 1) by omega)
  have f2 := fdiv_le_cdiv (a := crN zs ys c l) (show 0 < sLo ys i c h l + sLo ys i c h (l + 1) by omega)
  exact ⟨fdiv_ge0 hN (by omega), by omega⟩
theorem cross_fact {zs ys : List Int} {src c s h l X Y : Int} (hU : crF zs ys src c s h l = (X, Y, 0)) :
    0 ≤ X ∧ X ≤ Y ∧ Y ≤ 1000000000000 ∧ cdC c s h 9 40 41 = 0 ∧ (cdV c s h 9 40 41 < 0 ∨ ((crF zs ys src 9 40 41 l).2.2 = 0 ∧ (crF zs ys src 9 40 41 l).1 ≤ Y)) := by
  by_cases hq : acod zs ys src c s h l = 0
  · obtain ⟨i, j, rfl, rfl, hj, r⟩ := acod_ray hq
    unfold crF at hU
    rw [if_pos hq] at hU
    by_cases hv : vdV ys i c h j (j + 1) = 1
    · obtain ⟨e1, e2⟩ := vdV_1 hv
      obtain ⟨rfl, rfl, v1, v2⟩ := lim_0 ((if_pos hv).symm.trans hU)
      obtain ⟨o1, o2⟩ := cr_order r hj e1 e2
      refine ⟨o1, o2, (valB_t v2).2, ?_, ?_⟩
      · unfold cdC; rw [r.od.b, steep_dir]; rfl
      · have hcd : cdV c s h 9 40 41 = sgn (c * 41) (9 * h) := by unfold cdV; rw [r.od.b, steep_dir]; rfl
        rw [hcd]
        by_cases hf : c * 41 < 9 * h
        · exact Or.inl (by unfold sgn; rw [if_pos hf]; omega)
        · refine Or.inr ?_
          have r' : RyOk zs ys i 9 40 41 := ⟨r.ok, dirB_t steep_dir, r.hi⟩
          have cross : ∀ k : Nat, crB ys (i : Int) c h (k : Int) = true → crB ys (i : Int) 9 41 (k : Int) = true := by
            intro k e
            have hlt := crB_lt e
            unfold crB
            rw [rA_nat, rB_nat]
            refine decide_eq_true ?_
            have h1 := r.od.h1
            have k1 : (9 * h) * ys.getD k 0 ≤ (c * 41) * ys.getD k 0 := Int.mul_le_mul_of_nonneg_right (by omega) (r.ok.sge k)
            have k2 : (c * 41) * ys.getD k 0 = 41 * (c * ys.getD k 0) := by rw [Int.mul_comm c 41, Int.mul_assoc]
            have k3 : (9 * h) * ys.getD k 0 = h * (9 * ys.getD k 0) := by rw [Int.mul_comm 9 h, Int.mul_assoc]
            have k4 : h * (41 * ys.getD i 0) = 41 * (h * ys.getD i 0) := by rw [← Int.mul_assoc, Int.mul_comm h 41, Int.mul_assoc]
            exact Int.lt_of_mul_lt_mul_left (a := h) (by omega) (by omega)
          have d1 := cross j e1
          have d2 := cross (j + 1) e2
          have hv' : vdV ys i 9 41 j (j + 1) = 1 := by unfold vdV; rw [d1, d2]; rfl
          have hq' := acod_steep hq 9 40 41 steep_dir
          have hR : crF zs ys (i : Int) 9 40 41 (j : Int) = lim (crLo zs ys i 9 41 j) (crHi zs ys i 9 41 j) := by
            unfold crF; rw [if_pos hq']; exact if_pos hv'
          have b1 := sin_big r' j d1
          have b2 := sin_big r' (j + 1) d2
          obtain ⟨m0, m1, mN, mN0, mN1⟩ := r.crb hj
          obtain ⟨-, -, mN', mN0', mN1'⟩ := r'.crb hj
          obtain ⟨p1, p2⟩ := cr_order r' hj d1 d2
          have p3 : crHi zs ys i 9 41 j ≤ 1000000000000 := (cdiv_le_q (by omega)).2 (by omega)
          have hL : lim (crLo zs ys i 9 41 j) (crHi zs ys i 9 41 j) = (crLo zs ys i 9 41 j, crHi zs ys i 9 41 j, 0) := by
            unfold lim; rw [valB_mk (by omega) (by omega), valB_mk (by omega) p3]; rfl
          rw [hR, hL]
          refine ⟨rfl, ?_⟩
          show crLo zs ys i 9 41 j ≤ crHi zs ys i c h j
          have g1 := r.sn e1
          have g2 := r.sn e2
          have g1' := r'.sn d1
          have g2' := r'.sn d2
          have s1 := sin_steep r r' e1 d1 (by omega)
          have s2 := sin_steep r r' e2 d2 (by omega)
          have a1 := g1.l1
          have a2 := g2.l1
          have a3 := g1'.l1
          have a4 := g1'.lh
          have a5 := g2'.l1
          have a6 := g2'.lh
          have hc := r.od.c1
          have f1 := fdiv_low (a := crN zs ys 9 j) (m := sHi ys i 9 41 j + sHi ys i 9 41 (j + 1)) (by omega)
          have f2 := cdiv_up (a := crN zs ys c j) (m := sLo ys i c h j + sLo ys i c h (j + 1)) (by omega)
          have e3 : crLo zs ys i 9 41 j = (crN zs ys 9 j).fdiv (sHi ys i 9 41 j + sHi ys i 9 41 (j + 1)) := rfl
          have e4 : crHi zs ys i c h j = cdiv (crN zs ys c j) (sLo ys i c h j + sLo ys i c h (j + 1)) := rfl
          rw [← e3] at f1
          rw [← e4] at f2
          obtain ⟨x, hx⟩ : ∃ x, crLo zs ys i 9 41 j = x := ⟨_, rfl⟩
          obtain ⟨y, hy⟩ : ∃ x, crHi zs ys i c h j = x := ⟨_, rfl⟩
          obtain ⟨H, hH⟩ : ∃ x, sHi ys i 9 41 j + sHi ys i 9 41 (j + 1) = x := ⟨_, rfl⟩
          obtain ⟨K, hK⟩ : ∃ x, sLo ys i c h j + sLo ys i c h (j + 1) = x := ⟨_, rfl⟩
          obtain ⟨M, hM⟩ : ∃ x, zD zs j * (ys.getD j 0 + ys.getD (j + 1) 0) = x := ⟨_, rfl⟩
          rw [mN', hx, hH, hM] at f1
          rw [mN, hy, hK, hM] at f2
          rw [hx, hy]
          rw [hy] at o2
          have s3 : 9 * K ≤ c * H := by
            rw [← hH, ← hK, Int.mul_add, Int.mul_add]; omega
          have hH0 : 0 < c * H := Int.mul_pos (by omega) (by omega)
          refine Int.le_of_mul_le_mul_right (a := c * H) ?_ hH0
          have q1 := Int.mul_le_mul_of_nonneg_left f1 (show 0 ≤ c by omega)
          have q2 : x * (c * H) = c * (x * H) := Int.mul_left_comm ..
          have q3 : c * (9 * M) = 9 * (c * M) := Int.mul_left_comm ..
          have q4 := Int.mul_le_mul_of_nonneg_left s3 (show 0 ≤ y by omega)
          have q5 : y * (9 * K) = 9 * (y * K) := Int.mul_left_comm ..
          omega
    · have := (if_neg hv).symm.trans hU
      simp at this
  · unfold crF at hU
    rw [if_neg hq] at hU
    simp only [Prod.mk.injEq] at hU
    exact absurd hU.2.2 hq
/-- a ray that turns in a layer: the rise, the roots -/
theorem RyOk.turn {zs ys : List Int} {i : Nat} {c s h : Int} (r : RyOk zs ys i c s h) {n f : Nat} (e1 : crB ys (i : Int) c h (n : Int) = true) (e2 : crB ys (i : Int) c h (f : Int) = false) :
    riS ys c n f = c * ys.getD f 0 - c * ys.getD n 0 ∧ 0 < h * ys.getD i 0 - c * ys.getD n 0 ∧ h * ys.getD i 0 - c * ys.getD n 0 ≤ riS ys c n f ∧ riS ys c n f ≤ 1700000000 ∧ ys.getD n 0 < ys.getD f 0 := by
  have l1 := crB_lt e1
  have l2 := crB_ge e2
  have e : riS ys c n f = c * ys.getD f 0 - c * ys.getD n 0 := by unfold riS; rw [Int.mul_sub]
  have b := r.B f
  have b2 := r.B n
  refine ⟨e, by omega, by omega, by omega, ?_⟩
  exact Int.lt_of_mul_lt_mul_left (a := c) (by omega) (by have := r.od.c1; omega)
theorem turn_depth {zs ys : List Int} {src c s h l X Y : Int} {ab : Bool} (hU : tdF zs ys src c s h l ab = (X, Y, 0)) :
    ∃ j : Nat, l = (j : Int) ∧ j + 1 < zs.length ∧ zs.getD j 0 ≤ X ∧ Y ≤ zs.getD (j + 1) 0 := by
  by_cases hq : acod zs ys src c s h l = 0
  · obtain ⟨i, j, rfl, rfl, hj, r⟩ := acod_ray hq
    refine ⟨j, rfl, hj, ?_⟩
    unfold tdF at hU
    rw [if_pos hq] at hU
    by_cases hv : vdV ys i c h (anr j ab) (afr j ab) = 2
    · obtain ⟨e1, e2⟩ := vdV_2 hv
      obtain ⟨t1, t2, t3, t4, -⟩ := r.turn e1 e2
      have hz := r.z hj
      have hd : zD zs j = zs.getD (j + 1) 0 - zs.getD j 0 := rfl
      have e := (if_pos hv).symm.trans hU
      simp only [Int.toNat_natCast, Prod.mk.injEq, and_true] at e
      obtain ⟨rfl, rfl⟩ := e
      have n0 : 0 ≤ tdN zs ys i c h j ab := Int.mul_nonneg (by omega) (by omega)
      have n1 : tdN zs ys i c h j ab ≤ zD zs j * riS ys c (anr j ab) (afr j ab) := Int.mul_le_mul_of_nonneg_left t3 (by omega)
      have f1 := fdiv_ge0 n0 (show 0 < riS ys c (anr j ab) (afr j ab) by omega)
      have f2 := (cdiv_le_q (a := tdN zs ys i c h j ab) (q := zD zs j) (show 0 < riS ys c (anr j ab) (afr j ab) by omega)).2 n1
      have f3 := fdiv_le_cdiv (a := tdN zs ys i c h j ab) (show 0 < riS ys c (anr j ab) (afr j ab) by omega)
      unfold tdLo tdHi
      cases ab
      · rw [if_neg (by simp), if_neg (by simp)]; omega
      · rw [if_pos rfl, if_pos rfl]; omega
    · have := (if_neg hv).symm.trans hU
      simp at this
  · unfold tdF at hU
    rw [if_neg hq] at hU
    simp only [Prod.mk.injEq] at hU
    exact absurd hU.2.2 hq
theorem turn_fact {zs ys : List Int} {src c s h l X Y : Int} {ab : Bool} (hU : tnF zs ys src c s h l ab = (X, Y, 0)) :
    psF zs ys src c s h l ab = (X, Y, 2, 0) ∧ ((rdF zs ys src c s h l).2.2 = 3 ∨ ((rdF zs ys src c s h l).2.2 = 0 ∧ X ≤ 2 * (rdF zs ys src c s h l).2.1 ∧ -1000000000000 ≤ (rdF zs ys src c s h l).2.1 ∧ (rdF zs ys src c s h l).2.1 ≤ 1000000000000)) := by
  by_cases hq : acod zs ys src c s h l = 0
  · obtain ⟨i, j, rfl, rfl, hj, r⟩ := acod_ray hq
    unfold tnF at hU
    rw [if_pos hq] at hU
    by_cases hv : vdV ys i c h (anr j ab) (afr j ab) = 2
    · obtain ⟨e1, e2⟩ := vdV_2 hv
      obtain ⟨t1, t2, t3, t4, t5⟩ := r.turn e1 e2
      have hl := (if_pos hv).symm.trans hU
      simp only [Int.toNat_natCast] at hl
      refine ⟨?_, ?_⟩
      · unfold psF
        rw [if_pos hq]
        simp only [Int.toNat_natCast]
        rw [hv]
        have hr : rgV zs ys i c h j ab 2 = (X, Y, 0) := by unfold rgV; exact hl
        rw [hr]
        rfl
      · obtain ⟨rfl, rfl, v1, v2⟩ := lim_0 hl
        have hne : ¬ ys.getD j 0 = ys.getD (j + 1) 0 := by
          cases ab
          · have : ys.getD (j + 1) 0 < ys.getD j 0 := t5
            omega
          · have : ys.getD j 0 < ys.getD (j + 1) 0 := t5
            omega
        have hw : rdW ys c j = riS ys c (anr j ab) (afr j ab) := by
          unfold rdW riS
          cases ab
          · have : ys.getD (j + 1) 0 < ys.getD j 0 := t5
            rw [show (((ys.getD (j + 1) 0 - ys.getD j 0).natAbs : Nat) : Int) = ys.getD j 0 - ys.getD (j + 1) 0 by omega]; rfl
          · have : ys.getD j 0 < ys.getD (j + 1) 0 := t5
            rw [show (((ys.getD (j + 1) 0 - ys.getD j 0).natAbs : Nat) : Int) = ys.getD (j + 1) 0 - ys.getD j 0 by omega]; rfl
        have hR : rdF zs ys (i : Int) c s h (j : Int) = lim ((rdN zs ys i h j).fdiv (rdW ys c j)) (cdiv (rdN zs ys i h j) (rdW ys c j)) := by
          unfold rdF; rw [if_pos hq]; exact if_neg hne
        rw [hR]
        unfold lim
        cases g1 : valB ((rdN zs ys i h j).fdiv (rdW ys c j))
        · exact Or.inl rfl
        cases g2 : valB (cdiv (rdN zs ys i h j) (rdW ys c j))
        · exact Or.inl rfl
        refine Or.inr ⟨rfl, ?_, (valB_t g2).1, (valB_t g2).2⟩
        show tnLo zs ys i c h j ab ≤ 2 * cdiv (rdN zs ys i h j) (rdW ys c j)
        have hz := r.z hj
        have g := r.sn e1
        have hA := r.A
        have hB := r.B (anr j ab)
        have f1 := fdiv_low (a := 2 * zD zs j * sLo ys i c h (anr j ab)) (m := riS ys c (anr j ab) (afr j ab)) (by omega)
        have f2 := cdiv_up (a := rdN zs ys i h j) (m := rdW ys c j) (by rw [hw]; omega)
        rw [hw] at f2 ⊢
        have e3 : tnLo zs ys i c h j ab = (2 * zD zs j * sLo ys i c h (anr j ab)).fdiv (riS ys c (anr j ab) (afr j ab)) := rfl
        rw [← e3] at f1
        have k1 : sLo ys i c h (anr j ab) ≤ h * ys.getD i 0 := by
          rcases Int.lt_or_le (h * ys.getD i 0) (sLo ys i c h (anr j ab)) with q | q
          · have q1 := rsq_lt hA.1 q
            have q2 := g.lo
            have q3 := sqN_eq ys i (anr j ab) c h
            have q4 := Int.mul_nonneg hB.1 hB.1
            omega
          · exact q
        have k2 := Int.mul_le_mul_of_nonneg_left k1 (show 0 ≤ 2 * zD zs j by omega)
        have k3 : 2 * zD zs j * (h * ys.getD i 0) = 2 * rdN zs ys i h j := by
          unfold rdN; rw [Int.mul_assoc, Int.mul_comm (zD zs j)]
        refine Int.le_of_mul_le_mul_right (a := riS ys c (anr j ab) (afr j ab)) ?_ (by omega)
        have k4 : 2 * cdiv (rdN zs ys i h j) (riS ys c (anr j ab) (afr j ab)) * riS ys c (anr j ab) (afr j ab) = 2 * (cdiv (rdN zs ys i h j) (riS ys c (anr j ab) (afr j ab)) * riS ys c (anr j ab) (afr j ab)) := Int.mul_assoc ..
        omega
    · have := (if_neg hv).symm.trans hU
      simp at this
  · unfold tnF at hU
    rw [if_neg hq] at hU
    simp only [Prod.mk.injEq] at hU
    exact absurd hU.2.2 hq
/-- bounds for the law of radii -/
structure RdFact (zs ys : List Int) (c h X Y : Int) (i j : Nat) : Prop where
  li : i < ys.length
  lj : j + 1 < ys.length
  lz : j + 1 < zs.length
  c1 : 1 ≤ c
  c2 : c ≤ 1000
  h1 : 1 ≤ h
  h2 : h ≤ 1000
  u : ∀ k, 0 ≤ ys.getD k 0 ∧ ys.getD k 0 ≤ 1700000
  z : ∀ k, 0 ≤ zs.getD k 0 ∧ zs.getD k 0 ≤ 1000000
  w1 : 0 < rdW ys c j
  w2 : rdW ys c j ≤ 1700000000
  n1 : 0 ≤ rdN zs ys i h j
  n2 : rdN zs ys i h j ≤ 1700000000000000
  lo : X * rdW ys c j ≤ rdN zs ys i h j
  lo2 : 0 ≤ X * rdW ys c j
  up : rdN zs ys i h j ≤ Y * rdW ys c j
  up2 : Y * rdW ys c j ≤ 1700001700000000
  xy : Y - X ≤ 1
  x1 : -1000000000000 ≤ X ∧ X ≤ 1000000000000
  y1 : -1000000000000 ≤ Y ∧ Y ≤ 1000000000000
theorem rad_fact {zs ys : List Int} {src c s h l X Y : Int} (hU : rdF zs ys src c s h l = (X, Y, 0)) : ∃ i j : Nat, src = (i : Int) ∧ l = (j : Int) ∧ RdFact zs ys c h X Y i j := by
  by_cases hq : acod zs ys src c s h l = 0
  · obtain ⟨i, j, rfl, rfl, hj, r⟩ := acod_ray hq
    refine ⟨i, j, rfl, rfl, ?_⟩
    unfold rdF at hU
    rw [if_pos hq] at hU
    by_cases hv : ys.getD j 0 = ys.getD (j + 1) 0
    · have := (if_pos hv).symm.trans hU
      simp at this
    · have hl := (if_neg hv).symm.trans hU
      simp only [Int.toNat_natCast] at hl
      obtain ⟨rfl, rfl, v1, v2⟩ := lim_0 hl
      have hc := r.od.c1
      have hc2 := r.od.c2
      have hh := r.od.h1
      have hh2 := r.od.h2
      have s1 := r.ok.sge j
      have s2 := r.ok.shi j
      have s3 := r.ok.sge (j + 1)
      have s4 := r.ok.shi (j + 1)
      have hw : 0 < rdW ys c j := Int.mul_pos (by omega) (by omega)
      have mw := mul_in (a := c) (b := ((ys.getD (j + 1) 0 - ys.getD j 0).natAbs : Int)) (A := 1000) (B := 1700000) (by omega) (by omega) (by omega) (by omega)
      have hz := r.z hj
      have hA := r.A
      have mn := mul_in (a := h * ys.getD i 0) (b := zD zs j) (A := 1700000000) (B := 1000000) hA.1 hA.2 (by omega) (by omega)
      have f1 := fdiv_low (a := rdN zs ys i h j) hw
      have f2 := cdiv_up (a := rdN zs ys i h j) hw
      have f3 := fdiv_ge0 (show 0 ≤ rdN zs ys i h j from mn.1) hw
      have d1 := (cdiv_le_q (a := rdN zs ys i h j) (q := (rdN zs ys i h j).fdiv (rdW ys c j) + 1) hw).2 (by
        have := Int.mul_fdiv_add_fmod (rdN zs ys i h j) (rdW ys c j)
        have := Int.fmod_lt_of_pos (rdN zs ys i h j) hw
        rw [Int.add_mul, Int.mul_comm ((rdN zs ys i h j).fdiv (rdW ys c j))]; omega)
      have g5 := Int.mul_nonneg f3 (show 0 ≤ rdW ys c j by omega)
      have d2 := Int.mul_le_mul_of_nonneg_right d1 (show 0 ≤ rdW ys c j by omega)
      rw [Int.add_mul] at d2
      have w2 : rdW ys c j ≤ 1700000000 := by have := mw.2; unfold rdW; omega
      have n2 : rdN zs ys i h j ≤ 1700000000000000 := by have := mn.2; unfold rdN; omega
      exact ⟨by rw [r.ok.len]; exact r.hi, by rw [r.ok.len]; exact hj, hj, hc, by omega, hh, hh2, fun k => ⟨r.ok.sge k, r.ok.shi k⟩, fun k => ⟨r.ok.lo k, r.ok.hi k⟩, hw, w2, mn.1, n2, f1, g5, f2, by omega, by omega, valB_t v1, valB_t v2⟩
  · unfold rdF at hU
    rw [if_neg hq] at hU
    simp only [Prod.mk.injEq] at hU
    exact absurd hU.2.2 hq
end Go.Proofs.Ytgecbfbmmbfnmaa
