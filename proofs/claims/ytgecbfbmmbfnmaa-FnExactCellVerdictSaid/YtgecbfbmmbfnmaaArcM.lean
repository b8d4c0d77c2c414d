/- Arcs in a layer: what the program and the model compute, as integers, and plain facts of it. -/
import Derived.Test.YtgecbfbmmbfnmaaCns
import Derived.Test.YtgecbfbmmbfnmaaQuo
namespace Go.Proofs.Ytgecbfbmmbfnmaa
open Go.ChangeShapes Go.WideShapes Go.ChangeAt Go.RowKit Go.Shelf Num
set_option linter.unusedVariables false

theorem q_le_fdiv {q a m : Int} (hm : 0 < m) : q ≤ a.fdiv m ↔ q * m ≤ a := by
  rw [Int.fdiv_eq_ediv_of_nonneg _ (by omega)]
  exact Int.le_ediv_iff_mul_le hm
theorem cdiv_le_q {q a m : Int} (hm : 0 < m) : cdiv a m ≤ q ↔ a ≤ q * m := by
  have h := q_le_fdiv (q := -q) (a := -a) hm
  unfold cdiv
  rw [Int.neg_mul] at h
  constructor
  · intro g; have := h.1 (by omega); omega
  · intro g; have := h.2 (by omega); omega
theorem fdiv_low {a m : Int} (hm : 0 < m) : a.fdiv m * m ≤ a := (q_le_fdiv hm).1 (Int.le_refl _)
theorem cdiv_up {a m : Int} (hm : 0 < m) : a ≤ cdiv a m * m := (cdiv_le_q hm).1 (Int.le_refl _)
theorem fdiv_ge0 {a m : Int} (ha : 0 ≤ a) (hm : 0 < m) : 0 ≤ a.fdiv m := (q_le_fdiv hm).2 (by omega)
theorem cdiv_ge0 {a m : Int} (ha : 0 ≤ a) (hm : 0 < m) : 0 ≤ cdiv a m := by
  rcases Int.lt_or_le (cdiv a m) 0 with l | l
  · have h1 := cdiv_up (a := a) hm
    have h2 : cdiv a m * m < 0 * m := Int.mul_lt_mul_of_pos_right l hm
    omega
  · exact l
theorem fdiv_le_cdiv {a m : Int} (hm : 0 < m) : a.fdiv m ≤ cdiv a m := by
  have h1 := fdiv_low (a := a) hm
  have h2 := cdiv_up (a := a) hm
  exact Int.le_of_mul_le_mul_right (a := m) (by omega) hm
theorem fdiv_anti {a x y : Int} (ha : 0 ≤ a) (hx : 0 < x) (h : x ≤ y) : a.fdiv y ≤ a.fdiv x := by
  have h0 := fdiv_ge0 ha (show 0 < y by omega)
  have h1 := fdiv_low (a := a) (show 0 < y by omega)
  have h2 := Int.mul_le_mul_of_nonneg_left h h0
  exact (q_le_fdiv hx).2 (by omega)
theorem cdiv_anti {a x y : Int} (ha : 0 ≤ a) (hx : 0 < x) (h : x ≤ y) : cdiv a y ≤ cdiv a x := by
  have h0 := cdiv_ge0 ha hx
  have h1 := cdiv_up (a := a) hx
  have h2 := Int.mul_le_mul_of_nonneg_left h h0
  exact (cdiv_le_q (by omega)).2 (by omega)
theorem fdiv_mono {a b m : Int} (h : a ≤ b) (hm : 0 < m) : a.fdiv m ≤ b.fdiv m := by
  have h1 := fdiv_low (a := a) hm
  exact (q_le_fdiv hm).2 (by omega)
theorem cdiv_mono {a b m : Int} (h : a ≤ b) (hm : 0 < m) : cdiv a m ≤ cdiv b m := by
  have h1 := cdiv_up (a := b) hm
  exact (cdiv_le_q hm).2 (by omega)
theorem fdiv_add {s w n : Int} (hw : 0 < w) : (s * w + n).fdiv w = s + n.fdiv w := by
  rw [Int.fdiv_eq_ediv_of_nonneg _ (by omega), Int.fdiv_eq_ediv_of_nonneg _ (by omega), Int.add_comm (s * w), Int.add_mul_ediv_right _ _ (by omega), Int.add_comm]
theorem cdiv_add {s w n : Int} (hw : 0 < w) : cdiv (s * w + n) w = s + cdiv n w := by
  unfold cdiv
  have h := fdiv_add (s := -s) (w := w) (n := -n) hw
  rw [show -(s * w + n) = -s * w + -n by rw [Int.neg_mul]; omega, h]
  omega
theorem fdiv_neg' (n w : Int) : (-n).fdiv w = - cdiv n w := by unfold cdiv; omega
theorem cdiv_neg' (n w : Int) : cdiv (-n) w = - n.fdiv w := by unfold cdiv; rw [Int.neg_neg]

theorem mn4_eq {p q r s m : Int} (h1 : m ≤ p) (h2 : m ≤ q) (h3 : m ≤ r) (h4 : m ≤ s) (h : m = p ∨ m = q ∨ m = r ∨ m = s) : mn4 p q r s = m := by
  simp only [mn4, mnTo, List.getD_cons_zero, List.getD_cons_succ]
  repeat' split
  all_goals omega
theorem mx4_eq {p q r s m : Int} (h1 : p ≤ m) (h2 : q ≤ m) (h3 : r ≤ m) (h4 : s ≤ m) (h : m = p ∨ m = q ∨ m = r ∨ m = s) : mx4 p q r s = m := by
  simp only [mx4, mxTo, List.getD_cons_zero, List.getD_cons_succ]
  repeat' split
  all_goals omega
/-- one number by an interval of positive ones -/
theorem by_pos {a x y : Int} (ha : 0 ≤ a) (hx : 0 < x) (h : x ≤ y) : mn4 (a.fdiv x) (a.fdiv y) (a.fdiv x) (a.fdiv y) = a.fdiv y ∧ mx4 (cdiv a x) (cdiv a y) (cdiv a x) (cdiv a y) = cdiv a x := by
  have h1 := fdiv_anti ha hx h
  have h2 := cdiv_anti ha hx h
  exact ⟨mn4_eq h1 (Int.le_refl _) h1 (Int.le_refl _) (by omega), mx4_eq (Int.le_refl _) h2 (Int.le_refl _) h2 (by omega)⟩
/-- an interval by one positive number -/
theorem by_one {a b m : Int} (h : a ≤ b) (hm : 0 < m) : mn4 (a.fdiv m) (a.fdiv m) (b.fdiv m) (b.fdiv m) = a.fdiv m ∧ mx4 (cdiv a m) (cdiv a m) (cdiv b m) (cdiv b m) = cdiv b m := by
  have h1 := fdiv_mono h hm
  have h2 := cdiv_mono h hm
  exact ⟨mn4_eq (Int.le_refl _) (Int.le_refl _) h1 h1 (by omega), mx4_eq h2 h2 (Int.le_refl _) (Int.le_refl _) (by omega)⟩

/-- the code of a profile, a source, a direction and a layer -/
def acod (zs ys : List Int) (src c s h l : Int) : Int := rcT (prfB zs ys) (dirB c s h) (hkB zs src) (hlB zs l)
theorem acod_0 {zs ys : List Int} {src c s h l : Int} (e : acod zs ys src c s h l = 0) : prfB zs ys = true ∧ DirOk c s h ∧ (∃ i : Nat, src = (i : Int) ∧ i < zs.length) ∧ (∃ j : Nat, l = (j : Int) ∧ j + 1 < zs.length) := by
  obtain ⟨h1, h2, h3, h4⟩ := rcT_0 e
  have g3 := hkB_t h3
  have g4 := hlB_t h4
  exact ⟨h1, dirB_t h2, ⟨src.toNat, by omega, by omega⟩, ⟨l.toNat, by omega, by omega⟩⟩
/-- the code, in the program's two steps -/
theorem acod_steps (zs ys : List Int) (src c s h l : Int) : acod zs ys src c s h l = if rcod zs ys src c s h src = 0 then cdT (prfB zs ys) (hlB zs l) else rcod zs ys src c s h src := by
  unfold acod rcod rcT cdT
  cases prfB zs ys <;> cases dirB c s h <;> cases hkB zs src <;> cases hlB zs l <;> rfl
/-- the code, in the model's two steps -/
theorem acod_model (zs ys : List Int) (src c s h l : Int) : acod zs ys src c s h l = if rcod zs ys src c s h 0 = 0 then (if hlB zs l then 0 else 2) else rcod zs ys src c s h 0 := by
  unfold acod rcod rcT
  cases hp : prfB zs ys
  · rfl
  · have h0 : hkB zs 0 = true := by
      have := (Okp.of hp).n2
      unfold hkB
      simp
      omega
    rw [h0]
    cases dirB c s h <;> cases hkB zs src <;> cases hlB zs l <;> rfl

/-- the near and the far knot -/
def anr (l : Nat) (ab : Bool) : Nat := if ab then l else l + 1
def afr (l : Nat) (ab : Bool) : Nat := if ab then l + 1 else l
/-- the verdict -/
def vdV (ys : List Int) (i : Nat) (c h : Int) (n f : Nat) : Int := if crB ys (i : Int) c h (n : Int) then (if crB ys (i : Int) c h (f : Int) then 1 else 2) else 0
def vdT (zs ys : List Int) (src c s h l : Int) (ab : Bool) : Int × Int :=
  if acod zs ys src c s h l = 0 then (vdV ys src.toNat c h (anr l.toNat ab) (afr l.toNat ab), 0) else (0, acod zs ys src c s h l)
/-- an interval whose bounds are values, or the error -/
def lim (a b : Int) : Int × Int × Int := if valB a && valB b then (a, b, 0) else (0, 0, 3)
theorem lim_0 {a b x y : Int} (h : lim a b = (x, y, 0)) : x = a ∧ y = b ∧ valB a = true ∧ valB b = true := by
  unfold lim at h
  cases ha : valB a <;> cases hb : valB b <;> rw [ha, hb] at h <;> simp at h
  exact ⟨h.1.symm, h.2.symm, rfl, rfl⟩
/-- the bounds of the scaled sine -/
def sLo (ys : List Int) (i : Nat) (c h : Int) (k : Nat) : Int := rt (sqN ys (i : Int) c h (k : Int))
def sHi (ys : List Int) (i : Nat) (c h : Int) (k : Nat) : Int := rtup (sqN ys (i : Int) c h (k : Int))
/-- the thickness of a layer -/
def zD (zs : List Int) (l : Nat) : Int := zs.getD (l + 1) 0 - zs.getD l 0
def crN (zs ys : List Int) (c : Int) (l : Nat) : Int := zD zs l * c * (ys.getD l 0 + ys.getD (l + 1) 0)
def crLo (zs ys : List Int) (i : Nat) (c h : Int) (l : Nat) : Int := (crN zs ys c l).fdiv (sHi ys i c h l + sHi ys i c h (l + 1))
def crHi (zs ys : List Int) (i : Nat) (c h : Int) (l : Nat) : Int := cdiv (crN zs ys c l) (sLo ys i c h l + sLo ys i c h (l + 1))
def riS (ys : List Int) (c : Int) (n f : Nat) : Int := c * (ys.getD f 0 - ys.getD n 0)
def tnLo (zs ys : List Int) (i : Nat) (c h : Int) (l : Nat) (ab : Bool) : Int := (2 * zD zs l * sLo ys i c h (anr l ab)).fdiv (riS ys c (anr l ab) (afr l ab))
def tnHi (zs ys : List Int) (i : Nat) (c h : Int) (l : Nat) (ab : Bool) : Int := cdiv (2 * zD zs l * sHi ys i c h (anr l ab)) (riS ys c (anr l ab) (afr l ab))
def tdN (zs ys : List Int) (i : Nat) (c h : Int) (l : Nat) (ab : Bool) : Int := zD zs l * (h * ys.getD i 0 - c * ys.getD (anr l ab) 0)
def tdLo (zs ys : List Int) (i : Nat) (c h : Int) (l : Nat) (ab : Bool) : Int :=
  if ab then zs.getD l 0 + (tdN zs ys i c h l ab).fdiv (riS ys c (anr l ab) (afr l ab)) else zs.getD (l + 1) 0 - cdiv (tdN zs ys i c h l ab) (riS ys c (anr l ab) (afr l ab))
def tdHi (zs ys : List Int) (i : Nat) (c h : Int) (l : Nat) (ab : Bool) : Int :=
  if ab then zs.getD l 0 + cdiv (tdN zs ys i c h l ab) (riS ys c (anr l ab) (afr l ab)) else zs.getD (l + 1) 0 - (tdN zs ys i c h l ab).fdiv (riS ys c (anr l ab) (afr l ab))
def rdN (zs ys : List Int) (i : Nat) (h : Int) (l : Nat) : Int := h * ys.getD i 0 * zD zs l
def rdW (ys : List Int) (c : Int) (l : Nat) : Int := c * ((ys.getD (l + 1) 0 - ys.getD l 0).natAbs : Int)
/-- the results -/
def crF (zs ys : List Int) (src c s h l : Int) : Int × Int × Int :=
  if acod zs ys src c s h l = 0 then (if vdV ys src.toNat c h l.toNat (l.toNat + 1) = 1 then lim (crLo zs ys src.toNat c h l.toNat) (crHi zs ys src.toNat c h l.toNat) else (0, 0, 5)) else (0, 0, acod zs ys src c s h l)
def tnF (zs ys : List Int) (src c s h l : Int) (ab : Bool) : Int × Int × Int :=
  if acod zs ys src c s h l = 0 then (if vdV ys src.toNat c h (anr l.toNat ab) (afr l.toNat ab) = 2 then lim (tnLo zs ys src.toNat c h l.toNat ab) (tnHi zs ys src.toNat c h l.toNat ab) else (0, 0, 5)) else (0, 0, acod zs ys src c s h l)
def tdF (zs ys : List Int) (src c s h l : Int) (ab : Bool) : Int × Int × Int :=
  if acod zs ys src c s h l = 0 then (if vdV ys src.toNat c h (anr l.toNat ab) (afr l.toNat ab) = 2 then (tdLo zs ys src.toNat c h l.toNat ab, tdHi zs ys src.toNat c h l.toNat ab, 0) else (0, 0, 5)) else (0, 0, acod zs ys src c s h l)
def rdF (zs ys : List Int) (src c s h l : Int) : Int × Int × Int :=
  if acod zs ys src c s h l = 0 then (if ys.getD l.toNat 0 = ys.getD (l.toNat + 1) 0 then (0, 0, 5) else lim ((rdN zs ys src.toNat h l.toNat).fdiv (rdW ys c l.toNat)) (cdiv (rdN zs ys src.toNat h l.toNat) (rdW ys c l.toNat))) else (0, 0, acod zs ys src c s h l)
/-- the range by its verdict -/
def rgV (zs ys : List Int) (i : Nat) (c h : Int) (l : Nat) (ab : Bool) (v : Int) : Int × Int × Int :=
  if v = 1 then lim (crLo zs ys i c h l) (crHi zs ys i c h l) else lim (tnLo zs ys i c h l ab) (tnHi zs ys i c h l ab)
def psF (zs ys : List Int) (src c s h l : Int) (ab : Bool) : Int × Int × Int × Int :=
  if acod zs ys src c s h l = 0 then
    (if vdV ys src.toNat c h (anr l.toNat ab) (afr l.toNat ab) = 0 then (0, 0, 0, 5)
     else if (rgV zs ys src.toNat c h l.toNat ab (vdV ys src.toNat c h (anr l.toNat ab) (afr l.toNat ab))).2.2 = 0 then
       ((rgV zs ys src.toNat c h l.toNat ab (vdV ys src.toNat c h (anr l.toNat ab) (afr l.toNat ab))).1, (rgV zs ys src.toNat c h l.toNat ab (vdV ys src.toNat c h (anr l.toNat ab) (afr l.toNat ab))).2.1, vdV ys src.toNat c h (anr l.toNat ab) (afr l.toNat ab), 0)
     else (0, 0, 0, (rgV zs ys src.toNat c h l.toNat ab (vdV ys src.toNat c h (anr l.toNat ab) (afr l.toNat ab))).2.2))
  else (0, 0, 0, acod zs ys src c s h l)

/-- what is known of a ray of a valid direction in a valid profile, at a knot -/
structure RyOk (zs ys : List Int) (i : Nat) (c s h : Int) : Prop where
  ok : Okp zs ys
  od : DirOk c s h
  hi : i < zs.length
theorem RyOk.A {zs ys : List Int} {i : Nat} {c s h : Int} (r : RyOk zs ys i c s h) : 0 ≤ h * ys.getD i 0 ∧ h * ys.getD i 0 ≤ 1700000000 :=
  mul_in (A := 1000) (B := 1700000) (by have := r.od.h1; omega) (by have := r.od.h2; omega) (r.ok.sge i) (r.ok.shi i)
theorem RyOk.B {zs ys : List Int} {i : Nat} {c s h : Int} (r : RyOk zs ys i c s h) (k : Nat) : 0 ≤ c * ys.getD k 0 ∧ c * ys.getD k 0 ≤ 1700000000 :=
  mul_in (A := 1000) (B := 1700000) (by have := r.od.c1; omega) (by have := r.od.c2; have := r.od.h2; omega) (r.ok.sge k) (r.ok.shi k)
theorem crB_lt {ys : List Int} {i k : Nat} {c h : Int} (e : crB ys (i : Int) c h (k : Int) = true) : c * ys.getD k 0 < h * ys.getD i 0 := by
  unfold crB at e
  rw [rA_nat, rB_nat] at e
  exact of_decide_eq_true e
theorem crB_ge {ys : List Int} {i k : Nat} {c h : Int} (e : crB ys (i : Int) c h (k : Int) = false) : h * ys.getD i 0 ≤ c * ys.getD k 0 := by
  unfold crB at e
  rw [rA_nat, rB_nat] at e
  have := of_decide_eq_false e
  omega
theorem sqN_eq (ys : List Int) (i k : Nat) (c h : Int) : sqN ys (i : Int) c h (k : Int) = (h * ys.getD i 0) * (h * ys.getD i 0) - (c * ys.getD k 0) * (c * ys.getD k 0) := by unfold sqN; rw [rA_nat, rB_nat]
theorem sq_dif (A B : Int) : (A - B) * (A + B) = A * A - B * B := by rw [Int.sub_mul, Int.mul_add, Int.mul_add, Int.mul_comm B A]; omega
/-- bounds of the roots at a knot that the ray crosses -/
structure SnOk (N L H : Int) : Prop where
  n1 : 1 ≤ N
  n2 : N ≤ 2890000000000000000
  l1 : 1 ≤ L
  l2 : L ≤ 2000000000
  lh : L ≤ H
  h2 : H ≤ L + 1
  lo : L * L ≤ N
  up : N ≤ H * H
theorem rt_upper {N : Int} (h0 : 0 ≤ N) (h : N ≤ 4000000000000000000) : rt N * rt N ≤ N ∧ N ≤ rtup N * rtup N ∧ 0 ≤ rt N ∧ rt N ≤ 2000000000 ∧ rt N ≤ rtup N ∧ rtup N - rt N ≤ 1 := by
  obtain ⟨h1, h2⟩ := rt_sq N h0
  have h3 := rt_nonneg N
  have h4 := rt_le h0 h
  unfold rtup
  split
  · rename_i e
    exact ⟨h1, by omega, h3, h4, by omega, by omega⟩
  · exact ⟨h1, by omega, h3, h4, by omega, by omega⟩
theorem RyOk.sn {zs ys : List Int} {i : Nat} {c s h : Int} (r : RyOk zs ys i c s h) {k : Nat} (e : crB ys (i : Int) c h (k : Int) = true) : SnOk (sqN ys (i : Int) c h (k : Int)) (sLo ys i c h k) (sHi ys i c h k) := by
  have hA := r.A
  have hB := r.B k
  have hl := crB_lt e
  have e1 := sqN_eq ys i k c h
  have e2 := sq_dif (h * ys.getD i 0) (c * ys.getD k 0)
  have m1 := mul_in (a := h * ys.getD i 0) (b := h * ys.getD i 0) (A := 1700000000) (B := 1700000000) hA.1 hA.2 hA.1 hA.2
  have m2 := Int.mul_nonneg hB.1 hB.1
  have m3 := Int.mul_le_mul (show 1 ≤ h * ys.getD i 0 - c * ys.getD k 0 by omega) (show 1 ≤ h * ys.getD i 0 + c * ys.getD k 0 by omega) (by omega) (by omega)
  have n1 : 1 ≤ sqN ys (i : Int) c h (k : Int) := by omega
  have n2 : sqN ys (i : Int) c h (k : Int) ≤ 2890000000000000000 := by omega
  obtain ⟨g1, g2, g3, g4, g5, g6⟩ := rt_upper (N := sqN ys (i : Int) c h (k : Int)) (by omega) (by omega)
  have g7 : 1 ≤ rt (sqN ys (i : Int) c h (k : Int)) := by
    rcases Int.lt_or_le (rt (sqN ys (i : Int) c h (k : Int))) 1 with l | l
    · have e0 : rt (sqN ys (i : Int) c h (k : Int)) = 0 := by omega
      have := (rt_sq (sqN ys (i : Int) c h (k : Int)) (by omega)).2
      rw [e0] at this
      omega
    · exact l
  exact ⟨n1, n2, g7, g4, g5, by unfold sLo sHi; omega, g1, g2⟩
/-- a layer of a valid profile -/
theorem RyOk.z {zs ys : List Int} {i : Nat} {c s h : Int} (r : RyOk zs ys i c s h) {l : Nat} (hl : l + 1 < zs.length) : 1 ≤ zD zs l ∧ zD zs l ≤ 1000000 := by
  have h1 := r.ok.step l hl
  have h2 := r.ok.lo l
  have h3 := r.ok.hi (l + 1)
  unfold zD
  omega
end Go.Proofs.Ytgecbfbmmbfnmaa
