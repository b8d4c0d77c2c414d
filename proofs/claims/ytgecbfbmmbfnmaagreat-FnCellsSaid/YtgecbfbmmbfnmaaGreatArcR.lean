import Derived.Test.YtgecbfbmmbfnmaaGreatRayS
import Derived.Test.YtgecbfbmmbfnmaaGreatCorn
namespace Go.Proofs.YtgecbfbmmbfnmaaGreat
section
/- Arcs in a layer: what the program and the model compute, as integers, and plain facts of it. -/
open Go.ChangeShapes Go.WideShapes Go.ChangeAt Go.RowKit Go.Shelf Num
set_option linter.unusedVariables false

theorem q_le_fdiv {q a m : Int} (hm : 0 < m) : q ≤ a.fdiv m ↔ q * m ≤ a := by
  rw [Int.fdiv_eq_ediv_of_nonneg _ (by omega)]
  exact Int.le_ediv_iff_mul_le hm
theorem cdiv_le_q {q a m : Int} (hm : 0 < m) : cdiv a m ≤ q ↔ a ≤ q * m := by
  have h := q_le_fdiv (q := -q) (a := -a) hm
  unfold cdiv
  rw [Int.neg_mul] at h
  constructor
  · intro g; have := h.1 (by omega); omega
  · intro g; have := h.2 (by omega); omega
theorem fdiv_low {a m : Int} (hm : 0 < m) : a.fdiv m * m ≤ a := (q_le_fdiv hm).1 (Int.le_refl _)
theorem cdiv_up {a m : Int} (hm : 0 < m) : a ≤ cdiv a m * m := (cdiv_le_q hm).1 (Int.le_refl _)
theorem fdiv_ge0 {a m : Int} (ha : 0 ≤ a) (hm : 0 < m) : 0 ≤ a.fdiv m := (q_le_fdiv hm).2 (by omega)
theorem cdiv_ge0 {a m : Int} (ha : 0 ≤ a) (hm : 0 < m) : 0 ≤ cdiv a m := by
  rcases Int.lt_or_le (cdiv a m) 0 with l | l
  · have h1 := cdiv_up (a := a) hm
    have h2 : cdiv a m * m < 0 * m := Int.mul_lt_mul_of_pos_right l hm
    omega
  · exact l
theorem fdiv_le_cdiv {a m : Int} (hm : 0 < m) : a.fdiv m ≤ cdiv a m := by
  have h1 := fdiv_low (a := a) hm
  have h2 := cdiv_up (a := a) hm
  exact Int.le_of_mul_le_mul_right (a := m) (by omega) hm
theorem fdiv_anti {a x y : Int} (ha : 0 ≤ a) (hx : 0 < x) (h : x ≤ y) : a.fdiv y ≤ a.fdiv x := by
  have h0 := fdiv_ge0 ha (show 0 < y by omega)
  have h1 := fdiv_low (a := a) (show 0 < y by omega)
  have h2 := Int.mul_le_mul_of_nonneg_left h h0
  exact (q_le_fdiv hx).2 (by omega)
theorem cdiv_anti {a x y : Int} (ha : 0 ≤ a) (hx : 0 < x) (h : x ≤ y) : cdiv a y ≤ cdiv a x := by
  have h0 := cdiv_ge0 ha hx
  have h1 := cdiv_up (a := a) hx
  have h2 := Int.mul_le_mul_of_nonneg_left h h0
  exact (cdiv_le_q (by omega)).2 (by omega)
theorem fdiv_mono {a b m : Int} (h : a ≤ b) (hm : 0 < m) : a.fdiv m ≤ b.fdiv m := by
  have h1 := fdiv_low (a := a) hm
  exact (q_le_fdiv hm).2 (by omega)
theorem cdiv_mono {a b m : Int} (h : a ≤ b) (hm : 0 < m) : cdiv a m ≤ cdiv b m := by
  have h1 := cdiv_up (a := b) hm
  exact (cdiv_le_q hm).2 (by omega)
theorem mn4_eq {p q r s m : Int} (h1 : m ≤ p) (h2 : m ≤ q) (h3 : m ≤ r) (h4 : m ≤ s) (h : m = p ∨ m = q ∨ m = r ∨ m = s) : mn4 p q r s = m := by
  simp only [mn4, mnTo, List.getD_cons_zero, List.getD_cons_succ]
  repeat' split
  all_goals omega
theorem mx4_eq {p q r s m : Int} (h1 : p ≤ m) (h2 : q ≤ m) (h3 : r ≤ m) (h4 : s ≤ m) (h : m = p ∨ m = q ∨ m = r ∨ m = s) : mx4 p q r s = m := by
  simp only [mx4, mxTo, List.getD_cons_zero, List.getD_cons_succ]
  repeat' split
  all_goals omega
/-- one number by an interval of positive ones -/
theorem by_pos {a x y : Int} (ha : 0 ≤ a) (hx : 0 < x) (h : x ≤ y) : mn4 (a.fdiv x) (a.fdiv y) (a.fdiv x) (a.fdiv y) = a.fdiv y ∧ mx4 (cdiv a x) (cdiv a y) (cdiv a x) (cdiv a y) = cdiv a x := by
  have h1 := fdiv_anti ha hx h
  have h2 := cdiv_anti ha hx h
  exact ⟨mn4_eq h1 (Int.le_refl _) h1 (Int.le_refl _) (by omega), mx4_eq (Int.le_refl _) h2 (Int.le_refl _) h2 (by omega)⟩
/-- an interval by one positive number -/
theorem by_one {a b m : Int} (h : a ≤ b) (hm : 0 < m) : mn4 (a.fdiv m) (a.fdiv m) (b.fdiv m) (b.fdiv m) = a.fdiv m ∧ mx4 (cdiv a m) (cdiv a m) (cdiv b m) (cdiv b m) = cdiv b m := by
  have h1 := fdiv_mono h hm
  have h2 := cdiv_mono h hm
  exact ⟨mn4_eq (Int.le_refl _) (Int.le_refl _) h1 h1 (by omega), mx4_eq h2 h2 (Int.le_refl _) (Int.le_refl _) (by omega)⟩

/-- the near and the far knot -/
def anr (l : Nat) (ab : Bool) : Nat := if ab then l else l + 1
def afr (l : Nat) (ab : Bool) : Nat := if ab then l + 1 else l
/-- the verdict -/
def vdV (ys : List Int) (i : Nat) (c h : Int) (n f : Nat) : Int := if crB ys (i : Int) c h (n : Int) then (if crB ys (i : Int) c h (f : Int) then 1 else 2) else 0
/-- an interval whose bounds are values, or the error -/
def lim (a b : Int) : Int × Int × Int := if valB a && valB b then (a, b, 0) else (0, 0, 3)
/-- the bounds of the scaled sine -/
def sLo (ys : List Int) (i : Nat) (c h : Int) (k : Nat) : Int := rt (sqN ys (i : Int) c h (k : Int))
def sHi (ys : List Int) (i : Nat) (c h : Int) (k : Nat) : Int := rtup (sqN ys (i : Int) c h (k : Int))
/-- the thickness of a layer -/
def zD (zs : List Int) (l : Nat) : Int := zs.getD (l + 1) 0 - zs.getD l 0
def crN (zs ys : List Int) (c : Int) (l : Nat) : Int := zD zs l * c * (ys.getD l 0 + ys.getD (l + 1) 0)
def crLo (zs ys : List Int) (i : Nat) (c h : Int) (l : Nat) : Int := (crN zs ys c l).fdiv (sHi ys i c h l + sHi ys i c h (l + 1))
def crHi (zs ys : List Int) (i : Nat) (c h : Int) (l : Nat) : Int := cdiv (crN zs ys c l) (sLo ys i c h l + sLo ys i c h (l + 1))
def riS (ys : List Int) (c : Int) (n f : Nat) : Int := c * (ys.getD f 0 - ys.getD n 0)
def tnLo (zs ys : List Int) (i : Nat) (c h : Int) (l : Nat) (ab : Bool) : Int := (2 * zD zs l * sLo ys i c h (anr l ab)).fdiv (riS ys c (anr l ab) (afr l ab))
def tnHi (zs ys : List Int) (i : Nat) (c h : Int) (l : Nat) (ab : Bool) : Int := cdiv (2 * zD zs l * sHi ys i c h (anr l ab)) (riS ys c (anr l ab) (afr l ab))
/-- what is known of a ray of a valid direction in a valid profile, at a knot -/
structure RyOk (zs ys : List Int) (i : Nat) (c s h : Int) : Prop where
  ok : Okp zs ys
  od : DirOk c s h
  hi : i < zs.length
theorem RyOk.A {zs ys : List Int} {i : Nat} {c s h : Int} (r : RyOk zs ys i c s h) : 0 ≤ h * ys.getD i 0 ∧ h * ys.getD i 0 ≤ 1700000000 :=
  mul_in (A := 1000) (B := 1700000) (by have := r.od.h1; omega) (by have := r.od.h2; omega) (r.ok.sge i) (r.ok.shi i)
theorem RyOk.B {zs ys : List Int} {i : Nat} {c s h : Int} (r : RyOk zs ys i c s h) (k : Nat) : 0 ≤ c * ys.getD k 0 ∧ c * ys.getD k 0 ≤ 1700000000 :=
  mul_in (A := 1000) (B := 1700000) (by have := r.od.c1; omega) (by have := r.od.c2; have := r.od.h2; omega) (r.ok.sge k) (r.ok.shi k)
theorem crB_lt {ys : List Int} {i k : Nat} {c h : Int} (e : crB ys (i : Int) c h (k : Int) = true) : c * ys.getD k 0 < h * ys.getD i 0 := by
  unfold crB at e
  rw [rA_nat, rB_nat] at e
  exact of_decide_eq_true e
theorem crB_ge {ys : List Int} {i k : Nat} {c h : Int} (e : crB ys (i : Int) c h (k : Int) = false) : h * ys.getD i 0 ≤ c * ys.getD k 0 := by
  unfold crB at e
  rw [rA_nat, rB_nat] at e
  have := of_decide_eq_false e
  omega
theorem sqN_eq (ys : List Int) (i k : Nat) (c h : Int) : sqN ys (i : Int) c h (k : Int) = (h * ys.getD i 0) * (h * ys.getD i 0) - (c * ys.getD k 0) * (c * ys.getD k 0) := by unfold sqN; rw [rA_nat, rB_nat]
theorem sq_dif (A B : Int) : (A - B) * (A + B) = A * A - B * B := by rw [Int.sub_mul, Int.mul_add, Int.mul_add, Int.mul_comm B A]; omega
/-- bounds of the roots at a knot that the ray crosses -/
structure SnOk (N L H : Int) : Prop where
  n1 : 1 ≤ N
  n2 : N ≤ 2890000000000000000
  l1 : 1 ≤ L
  l2 : L ≤ 2000000000
  lh : L ≤ H
  h2 : H ≤ L + 1
  lo : L * L ≤ N
  up : N ≤ H * H
theorem rt_upper {N : Int} (h0 : 0 ≤ N) (h : N ≤ 4000000000000000000) : rt N * rt N ≤ N ∧ N ≤ rtup N * rtup N ∧ 0 ≤ rt N ∧ rt N ≤ 2000000000 ∧ rt N ≤ rtup N ∧ rtup N - rt N ≤ 1 := by
  obtain ⟨h1, h2⟩ := rt_sq N h0
  have h3 := rt_nonneg N
  have h4 := rt_le h0 h
  unfold rtup
  split
  · rename_i e
    exact ⟨h1, by omega, h3, h4, by omega, by omega⟩
  · exact ⟨h1, by omega, h3, h4, by omega, by omega⟩
theorem RyOk.sn {zs ys : List Int} {i : Nat} {c s h : Int} (r : RyOk zs ys i c s h) {k : Nat} (e : crB ys (i : Int) c h (k : Int) = true) : SnOk (sqN ys (i : Int) c h (k : Int)) (sLo ys i c h k) (sHi ys i c h k) := by
  have hA := r.A
  have hB := r.B k
  have hl := crB_lt e
  have e1 := sqN_eq ys i k c h
  have e2 := sq_dif (h * ys.getD i 0) (c * ys.getD k 0)
  have m1 := mul_in (a := h * ys.getD i 0) (b := h * ys.getD i 0) (A := 1700000000) (B := 1700000000) hA.1 hA.2 hA.1 hA.2
  have m2 := Int.mul_nonneg hB.1 hB.1
  have m3 := Int.mul_le_mul (show 1 ≤ h * ys.getD i 0 - c * ys.getD k 0 by omega) (show 1 ≤ h * ys.getD i 0 + c * ys.getD k 0 by omega) (by omega) (by omega)
  have n1 : 1 ≤ sqN ys (i : Int) c h (k : Int) := by omega
  have n2 : sqN ys (i : Int) c h (k : Int) ≤ 2890000000000000000 := by omega
  obtain ⟨g1, g2, g3, g4, g5, g6⟩ := rt_upper (N := sqN ys (i : Int) c h (k : Int)) (by omega) (by omega)
  have g7 : 1 ≤ rt (sqN ys (i : Int) c h (k : Int)) := by
    rcases Int.lt_or_le (rt (sqN ys (i : Int) c h (k : Int))) 1 with l | l
    · have e0 : rt (sqN ys (i : Int) c h (k : Int)) = 0 := by omega
      have := (rt_sq (sqN ys (i : Int) c h (k : Int)) (by omega)).2
      rw [e0] at this
      omega
    · exact l
  exact ⟨n1, n2, g7, g4, g5, by unfold sLo sHi; omega, g1, g2⟩
/-- a layer of a valid profile -/
theorem RyOk.z {zs ys : List Int} {i : Nat} {c s h : Int} (r : RyOk zs ys i c s h) {l : Nat} (hl : l + 1 < zs.length) : 1 ≤ zD zs l ∧ zD zs l ≤ 1000000 := by
  have h1 := r.ok.step l hl
  have h2 := r.ok.lo l
  have h3 := r.ok.hi (l + 1)
  unfold zD
  omega
end
section
/- Arcs in a layer: the facts behind the laws of crossings, turnings and radii. -/
open Go.ChangeShapes Go.WideShapes Go.ChangeAt Go.RowKit Go.Shelf Num
set_option linter.unusedVariables false

/-- bounds of what is divided, what divides -/
theorem RyOk.crb {zs ys : List Int} {i : Nat} {c s h : Int} (r : RyOk zs ys i c s h) {l : Nat} (hl : l + 1 < zs.length) :
    0 ≤ zD zs l * (ys.getD l 0 + ys.getD (l + 1) 0) ∧ zD zs l * (ys.getD l 0 + ys.getD (l + 1) 0) ≤ 3400000000000 ∧ crN zs ys c l = c * (zD zs l * (ys.getD l 0 + ys.getD (l + 1) 0)) ∧ 0 ≤ crN zs ys c l ∧ crN zs ys c l ≤ 3400000000000000 := by
  have hz := r.z hl
  have s1 := r.ok.sge l
  have s2 := r.ok.shi l
  have s3 := r.ok.sge (l + 1)
  have s4 := r.ok.shi (l + 1)
  have m := mul_in (a := zD zs l) (b := ys.getD l 0 + ys.getD (l + 1) 0) (A := 1000000) (B := 3400000) (by omega) (by omega) (by omega) (by omega)
  have e : crN zs ys c l = c * (zD zs l * (ys.getD l 0 + ys.getD (l + 1) 0)) := by
    unfold crN
    rw [Int.mul_right_comm, Int.mul_comm]
  have m2 := mul_in (a := c) (b := zD zs l * (ys.getD l 0 + ys.getD (l + 1) 0)) (A := 1000) (B := 3400000000000) (by have := r.od.c1; omega) (by have := r.od.c2; have := r.od.h2; omega) m.1 (by omega)
  exact ⟨m.1, by omega, e, by rw [e]; exact m2.1, by rw [e]; omega⟩
theorem cr_order {zs ys : List Int} {i : Nat} {c s h : Int} (r : RyOk zs ys i c s h) {l : Nat} (hl : l + 1 < zs.length) (e1 : crB ys (i : Int) c h (l : Int) = true) (e2 : crB ys (i : Int) c h ((l + 1 : Nat) : Int) = true) :
    0 ≤ crLo zs ys i c h l ∧ crLo zs ys i c h l ≤ crHi zs ys i c h l := by
  have g1 := r.sn e1
  have g2 := r.sn e2
  have hN := (r.crb hl).2.2.2.1
  have a1 := g1.l1
  have a2 := g1.lh
  have a3 := g2.l1
  have a4 := g2.lh
  unfold crLo crHi
  have f1 := fdiv_anti hN (show 0 < sLo ys i c h l + sLo ys i c h (l + 1) by omega) (show sLo ys i c h l + sLo ys i c h (l + 1) ≤ sHi ys i c h l + sHi ys i c h (l + 1) by omega)
  have f2 := fdiv_le_cdiv (a := crN zs ys c l) (show 0 < sLo ys i c h l + sLo ys i c h (l + 1) by omega)
  exact ⟨fdiv_ge0 hN (by omega), by omega⟩
/-- a ray that turns in a layer: the rise, the roots -/
theorem RyOk.turn {zs ys : List Int} {i : Nat} {c s h : Int} (r : RyOk zs ys i c s h) {n f : Nat} (e1 : crB ys (i : Int) c h (n : Int) = true) (e2 : crB ys (i : Int) c h (f : Int) = false) :
    riS ys c n f = c * ys.getD f 0 - c * ys.getD n 0 ∧ 0 < h * ys.getD i 0 - c * ys.getD n 0 ∧ h * ys.getD i 0 - c * ys.getD n 0 ≤ riS ys c n f ∧ riS ys c n f ≤ 1700000000 ∧ ys.getD n 0 < ys.getD f 0 := by
  have l1 := crB_lt e1
  have l2 := crB_ge e2
  have e : riS ys c n f = c * ys.getD f 0 - c * ys.getD n 0 := by unfold riS; rw [Int.mul_sub]
  have b := r.B f
  have b2 := r.B n
  refine ⟨e, by omega, by omega, by omega, ?_⟩
  exact Int.lt_of_mul_lt_mul_left (a := c) (by omega) (by have := r.od.c1; omega)
end
section
/- The model's sines at any knot, roots of what is not positive too. -/
open Go.ChangeShapes Go.WideShapes Go.ChangeAt Go.RowKit Go.Shelf Num
set_option linter.unusedVariables false
theorem lrn_any (n : Int) (hn : n < 0) (w : World) :
    Calls Tryz.prog 88 #[.int .i64 n] w fun e w' => e = .returned (.int .i64 0) ∧ w = w' := by
  go_enter Tryz.func88, Tryz.ntmps88
  go_wp2
  go_loop [3, 4] (fun l h => ∃ lo hi : Int, l = .int .i64 lo ∧ h = .int .i64 hi ∧ 0 ≤ lo ∧ lo ≤ 0 ∧ lo < hi ∧ hi ≤ 2000000001) (fun l h => (intOf h - intOf l).toNat)
  case atStart => exact ⟨0, 2000000001, rfl, rfl, by omega, by omega, by omega, by omega⟩
  case round =>
    obtain ⟨lo, hi, rfl, rfl, h1, h2, h3, h4⟩ := hrel
    by_cases hc : 1 < hi - lo
    · have e0 : 0 ≤ (lo + hi) / 2 := by omega
      have e1 : (lo + hi) / 2 ≤ 2000000000 := by omega
      have s0 := rsq_le (a := 0) (b := (lo + hi) / 2) (by omega) (by omega)
      have s1 := rsq_le e0 e1
      have hs : ¬ (lo + hi) / 2 * ((lo + hi) / 2) ≤ n := by omega
      go_wp2
      go_round
      case rel => exact ⟨lo, (lo + hi) / 2, rfl, rfl, by omega, by omega, by omega, by omega⟩
      case measure => simp [intOf]; omega
    · go_wp2
      go_ret
      exact ⟨ret_int (by omega), rfl⟩
theorem rt_zero : rt 0 = 0 := rt_unique (by omega) (by omega) (by omega)
theorem lrz_any (n : Int) (hn : n ≤ 0) (w : World) :
    Calls Tryz.prog 88 #[.int .i64 n] w fun e w' => e = .returned (.int .i64 0) ∧ w = w' := by
  by_cases h : n < 0
  · exact lrn_any n h w
  · obtain rfl : n = 0 := by omega
    have := lrt_any 0 (by omega) (by omega) w
    rwa [rt_zero] at this
theorem luz_any (n : Int) (hn : n ≤ 0) (w : World) :
    Calls Tryz.prog 89 #[.int .i64 n] w fun e w' => e = .returned (.int .i64 0) ∧ w = w' := by
  have h0 : ¬ (0 : Int) < n := by omega
  have h1 : ¬ (0 : Int) * 0 < n := by omega
  go_enter Tryz.func89, Tryz.ntmps89
  go_wp2_with (go_at_call 88; refine (lrz_any _ hn _).mono ?_; rintro e w' ⟨rfl, rfl⟩)
  go_ret
  exact ⟨rfl, rfl⟩
/-- bounds of the sine at any knot: zero where the ray does not come -/
def sL (ys : List Int) (i : Nat) (c h : Int) (k : Nat) : Int := if crB ys (i : Int) c h (k : Int) then sLo ys i c h k else 0
def sH (ys : List Int) (i : Nat) (c h : Int) (k : Nat) : Int := if crB ys (i : Int) c h (k : Int) then sHi ys i c h k else 0
theorem RyOk.sg {zs ys : List Int} {i : Nat} {c s h : Int} (r : RyOk zs ys i c s h) (k : Nat) : 0 ≤ sL ys i c h k ∧ sL ys i c h k ≤ sH ys i c h k ∧ sH ys i c h k ≤ 2000000001 ∧ (crB ys (i : Int) c h (k : Int) = true → 1 ≤ sL ys i c h k) := by
  unfold sL sH
  cases e : crB ys (i : Int) c h (k : Int)
  · simp
  · have g := r.sn e
    have a1 := g.l1
    have a2 := g.l2
    have a3 := g.lh
    have a4 := g.h2
    rw [if_pos rfl, if_pos rfl]
    exact ⟨by omega, a3, by omega, fun _ => a1⟩
set_option maxRecDepth 100000 in
set_option maxHeartbeats 2000000 in
theorem lsz_any (w : World) (a b : Option Addr) (ca cb : Nat) (zs ys : List Int) (i k : Nat) (c s h : Int) (hp : Prof w w.heap.size a b zs ys) (r : RyOk zs ys i c s h) (hk : k < zs.length) (hx : crB ys (i : Int) c h (k : Int) = false) :
    Calls Tryz.prog 83 #[.agg #[.slice a zs.length ca, .slice b ys.length cb], .int .i64 (i : Int), .agg #[.int .i64 c, .int .i64 s, .int .i64 h], .int .i64 (k : Int)] w fun e w' => e = .returned (.agg #[.int .i64 0, .int .i64 0]) ∧ Below w.heap.size w w' := by
  have HP := Lib.hid hp
  have hge := crB_ge hx
  have hA := r.A
  have hB := r.B k
  have hs := sq_pos hA.1 hB.1
  have K : Hid (∀ W : World, Below w.heap.size w W → Calls Tryz.prog 82 #[.agg #[.slice a zs.length ca, .slice b ys.length cb], .int .i64 (i : Int), .agg #[.int .i64 c, .int .i64 s, .int .i64 h], .int .i64 (k : Int)] W fun e w' => e = .returned (.int .i64 ((h * ys.getD i 0 - c * ys.getD k 0) * (h * ys.getD i 0 + c * ys.getD k 0))) ∧ Below W.heap.size W w') := Lib.hid (fun W hb => lsq_any W a b ca cb zs ys i k c s h (HP.out.on hb) r.ok r.hi hk r.od)
  obtain ⟨N, hN⟩ : ∃ n, (h * ys.getD i 0 - c * ys.getD k 0) * (h * ys.getD i 0 + c * ys.getD k 0) = n := ⟨_, rfl⟩
  rw [hN] at K hs
  have n0 : N ≤ 0 := by
    rcases Int.lt_or_le 0 N with l | l
    · have := hs.1 l; omega
    · exact l
  have R1 : Hid (∀ w : World, Calls Tryz.prog 88 #[.int .i64 N] w fun e w' => e = .returned (.int .i64 0) ∧ w = w') := Lib.hid (fun w => lrz_any N n0 w)
  have R2 : Hid (∀ w : World, Calls Tryz.prog 89 #[.int .i64 N] w fun e w' => e = .returned (.int .i64 0) ∧ w = w') := Lib.hid (fun w => luz_any N n0 w)
  clear n0 hN hs hA hB hge hx hk hp r
  go_enter Tryz.func83, Tryz.ntmps83
  go_wp2_with fail
  generalize hW : World.alloc _ _ = W
  have bR : Bk W (w.heap.size + 1 + 1) #[.int .i64 0, .int .i64 0] 34 := by rw [← hW]; repeat (first | exact Bk.new' (by simp) | refine Bk.alloc ?_ _)
  have HB : Hid (Below w.heap.size w W) := Lib.hid (by rw [← hW]; exact (by repeat (first | exact Below.refl _ _ | (refine Below.alloc ?_ (by simp <;> omega) _) | (refine Below.setCell ?_ (by simp <;> omega) _) | (refine Below.drew ?_) | (refine bel_drewN ?_ _))))
  clear hW
  (with_reducible refine Calls.mono (K.out _ HB.out) ?_)
  rintro e w1 ⟨rfl, hb⟩
  replace bR := bR.on hb
  replace HB := Lib.hid (bel_end HB.out hb)
  clear hb
  have r0 := bR.cell 0 rfl
  have r1 := bR.cell 1 rfl
  have f0 := bR.frozen 0
  have f1 := bR.frozen 1
  have rl := bR.lt
  go_wp2_with (first | (go_at_call 88; (with_reducible refine Calls.mono (R1.out _) ?_); rintro e w' ⟨rfl, hw⟩; subst hw) | (go_at_call 89; (with_reducible refine Calls.mono (R2.out _) ?_); rintro e w' ⟨rfl, hw⟩; subst hw))
  exact bodyPost_ret (v := .agg #[.int .i64 0, .int .i64 0]) (by simp [results, Tryz.results83, go_sem, r0, r1]) rfl ⟨rfl, (HB.out.setCell (by simp; omega) _).setCell (by simp; omega) _⟩
theorem lsg_any (w : World) (a b : Option Addr) (ca cb : Nat) (zs ys : List Int) (i k : Nat) (c s h : Int) (hp : Prof w w.heap.size a b zs ys) (r : RyOk zs ys i c s h) (hk : k < zs.length) :
    Calls Tryz.prog 83 #[.agg #[.slice a zs.length ca, .slice b ys.length cb], .int .i64 (i : Int), .agg #[.int .i64 c, .int .i64 s, .int .i64 h], .int .i64 (k : Int)] w fun e w' => e = .returned (.agg #[.int .i64 (sL ys i c h k), .int .i64 (sH ys i c h k)]) ∧ Below w.heap.size w w' := by
  unfold sL sH
  cases e : crB ys (i : Int) c h (k : Int)
  · have := lsz_any w a b ca cb zs ys i k c s h hp r hk e
    simpa using this
  · have := lsn_any w a b ca cb zs ys i k c s h hp r.ok r.hi hk r.od (crB_lt e)
    rw [if_pos rfl, if_pos rfl]
    exact this
end
section
/- Rays: what the program and the model compute, as integers, and plain facts of it. -/
open Go.ChangeShapes Go.WideShapes Go.ChangeAt Go.RowKit Go.Shelf Num
set_option linter.unusedVariables false

/-- a state of a ray: its knot, down or not, the bounds of its range -/
structure RSt where
  k : Nat
  dn : Bool
  lo : Int
  hi : Int
/-- the knot ahead, the layer ahead -/
def fk (k : Nat) (dn : Bool) : Nat := if dn then k + 1 else k - 1
def lk (k : Nat) (dn : Bool) : Nat := if dn then k else k - 1
/-- does a layer lie ahead? -/
def inP (n k : Nat) (dn : Bool) : Bool := if dn then decide (k + 1 < n) else decide (0 < k)
theorem inP_l {n k : Nat} {dn : Bool} (hk : k < n) (h : inP n k dn = true) : lk k dn + 1 < n ∧ anr (lk k dn) dn = k ∧ afr (lk k dn) dn = fk k dn ∧ fk k dn < n := by
  cases dn
  · have h' : 0 < k := by simpa [inP] using h
    show k - 1 + 1 < n ∧ k - 1 + 1 = k ∧ k - 1 = k - 1 ∧ k - 1 < n
    omega
  · have h' : k + 1 < n := by simpa [inP] using h
    show k + 1 < n ∧ k = k ∧ k + 1 = k + 1 ∧ k + 1 < n
    omega
/-- the next event -/
def evV (zs ys : List Int) (i : Nat) (c h : Int) (k : Nat) (dn : Bool) : Int :=
  if inP zs.length k dn then (if crB ys (i : Int) c h (fk k dn : Nat) then 1 else 2) else (if dn then 4 else 3)
/-- what it adds to the range -/
def adLo (zs ys : List Int) (i : Nat) (c h : Int) (k : Nat) (dn : Bool) : Int :=
  if inP zs.length k dn then (if crB ys (i : Int) c h (fk k dn : Nat) then crLo zs ys i c h (lk k dn) else tnLo zs ys i c h (lk k dn) dn) else 0
def adHi (zs ys : List Int) (i : Nat) (c h : Int) (k : Nat) (dn : Bool) : Int :=
  if inP zs.length k dn then (if crB ys (i : Int) c h (fk k dn : Nat) then crHi zs ys i c h (lk k dn) else tnHi zs ys i c h (lk k dn) dn) else 0
/-- the state behind it -/
def nxt (zs ys : List Int) (i : Nat) (c h : Int) (x : RSt) : RSt :=
  ⟨if evV zs ys i c h x.k x.dn = 1 then fk x.k x.dn else x.k, if evV zs ys i c h x.k x.dn = 1 then x.dn else !x.dn, x.lo + adLo zs ys i c h x.k x.dn, x.hi + adHi zs ys i c h x.k x.dn⟩
def nxB (zs ys : List Int) (i : Nat) (c h : Int) (x : RSt) : Bool := valB (nxt zs ys i c h x).lo && valB (nxt zs ys i c h x).hi
/-- a valid state -/
structure SOk (zs ys : List Int) (i : Nat) (c h : Int) (x : RSt) : Prop where
  kl : x.k < zs.length
  cr : crB ys (i : Int) c h (x.k : Int) = true
  l0 : 0 ≤ x.lo
  lh : x.lo ≤ x.hi
  h1 : x.hi ≤ 1000000000000
theorem natAbs_step {zs ys : List Int} {i : Nat} {c s h : Int} (r : RyOk zs ys i c s h) {l : Nat} (hl : l + 1 < zs.length) (ab : Bool) : ((zs.getD (afr l ab) 0 - zs.getD (anr l ab) 0).natAbs : Int) = zD zs l := by
  have hz := r.z hl
  unfold zD at hz ⊢
  cases ab
  · show ((zs.getD l 0 - zs.getD (l + 1) 0).natAbs : Int) = _
    omega
  · show ((zs.getD (l + 1) 0 - zs.getD l 0).natAbs : Int) = _
    omega
/-- the range of a crossing by its near and its far knot -/
theorem cr_near {zs ys : List Int} {i : Nat} {c s h : Int} (r : RyOk zs ys i c s h) {l : Nat} (hl : l + 1 < zs.length) (ab : Bool) :
    (((zs.getD (afr l ab) 0 - zs.getD (anr l ab) 0).natAbs : Int) * (c * ys.getD (anr l ab) 0 + c * ys.getD (afr l ab) 0)).fdiv (sHi ys i c h (anr l ab) + sHi ys i c h (afr l ab)) = crLo zs ys i c h l
    ∧ cdiv (((zs.getD (afr l ab) 0 - zs.getD (anr l ab) 0).natAbs : Int) * (c * ys.getD (anr l ab) 0 + c * ys.getD (afr l ab) 0)) (sLo ys i c h (anr l ab) + sLo ys i c h (afr l ab)) = crHi zs ys i c h l := by
  rw [natAbs_step r hl ab]
  have e : zD zs l * (c * ys.getD (anr l ab) 0 + c * ys.getD (afr l ab) 0) = crN zs ys c l := by
    unfold crN
    rw [← Int.mul_add, ← Int.mul_assoc]
    cases ab
    · show zD zs l * c * (ys.getD (l + 1) 0 + ys.getD l 0) = _
      rw [Int.add_comm]
    · rfl
  rw [e]
  unfold crLo crHi
  cases ab
  · show (crN zs ys c l).fdiv (sHi ys i c h (l + 1) + sHi ys i c h l) = _ ∧ cdiv (crN zs ys c l) (sLo ys i c h (l + 1) + sLo ys i c h l) = _
    rw [Int.add_comm (sHi ys i c h (l + 1)), Int.add_comm (sLo ys i c h (l + 1))]
    exact ⟨rfl, rfl⟩
  · exact ⟨rfl, rfl⟩
theorem tn_near {zs ys : List Int} {i : Nat} {c s h : Int} (r : RyOk zs ys i c s h) {l : Nat} (hl : l + 1 < zs.length) (ab : Bool) :
    (2 * ((zs.getD (afr l ab) 0 - zs.getD (anr l ab) 0).natAbs : Int) * sLo ys i c h (anr l ab)).fdiv (riS ys c (anr l ab) (afr l ab)) = tnLo zs ys i c h l ab
    ∧ cdiv (2 * ((zs.getD (afr l ab) 0 - zs.getD (anr l ab) 0).natAbs : Int) * sHi ys i c h (anr l ab)) (riS ys c (anr l ab) (afr l ab)) = tnHi zs ys i c h l ab := by
  rw [natAbs_step r hl ab]
  exact ⟨rfl, rfl⟩
/-- the bounds of a crossing -/
theorem cr_bounds {zs ys : List Int} {i : Nat} {c s h : Int} (r : RyOk zs ys i c s h) {l : Nat} (hl : l + 1 < zs.length) (e1 : crB ys (i : Int) c h (l : Int) = true) (e2 : crB ys (i : Int) c h ((l + 1 : Nat) : Int) = true) :
    0 ≤ crLo zs ys i c h l ∧ crLo zs ys i c h l ≤ crHi zs ys i c h l ∧ crHi zs ys i c h l ≤ 3400000000000000 := by
  obtain ⟨o1, o2⟩ := cr_order r hl e1 e2
  have g1 := (r.sn e1).l1
  have g2 := (r.sn e2).l1
  have hN := (r.crb hl).2.2.2
  refine ⟨o1, o2, (cdiv_le_q (by omega)).2 ?_⟩
  have := Int.mul_le_mul_of_nonneg_left (show 1 ≤ sLo ys i c h l + sLo ys i c h (l + 1) by omega) (show (0 : Int) ≤ 3400000000000000 by omega)
  omega
/-- the bounds of a turn -/
theorem tn_bounds {zs ys : List Int} {i : Nat} {c s h : Int} (r : RyOk zs ys i c s h) {l : Nat} (hl : l + 1 < zs.length) (ab : Bool) (e1 : crB ys (i : Int) c h (anr l ab : Nat) = true) (e2 : crB ys (i : Int) c h (afr l ab : Nat) = false) :
    0 ≤ tnLo zs ys i c h l ab ∧ tnLo zs ys i c h l ab ≤ tnHi zs ys i c h l ab ∧ tnHi zs ys i c h l ab ≤ 4000002000000000 := by
  have hz := r.z hl
  obtain ⟨t1, t2, t3, t4, -⟩ := r.turn e1 e2
  have g := r.sn e1
  have a1 := g.l1
  have a2 := g.l2
  have a3 := g.lh
  have a4 := g.h2
  have m1 := mul_in (a := 2 * zD zs l) (b := sLo ys i c h (anr l ab)) (A := 2000000) (B := 2000000001) (by omega) (by omega) (by omega) (by omega)
  have m2 := mul_in (a := 2 * zD zs l) (b := sHi ys i c h (anr l ab)) (A := 2000000) (B := 2000000001) (by omega) (by omega) (by omega) (by omega)
  have m3 := Int.mul_le_mul_of_nonneg_left a3 (show 0 ≤ 2 * zD zs l by omega)
  have hw : 0 < riS ys c (anr l ab) (afr l ab) := by omega
  have f1 := fdiv_mono (m := riS ys c (anr l ab) (afr l ab)) m3 hw
  have f2 := fdiv_le_cdiv (a := 2 * zD zs l * sHi ys i c h (anr l ab)) hw
  refine ⟨fdiv_ge0 m1.1 hw, by unfold tnLo tnHi; omega, (cdiv_le_q hw).2 ?_⟩
  have := Int.mul_le_mul_of_nonneg_left (show 1 ≤ riS ys c (anr l ab) (afr l ab) by omega) (show (0 : Int) ≤ 4000002000000000 by omega)
  omega
theorem SOk.ad {zs ys : List Int} {i : Nat} {c s h : Int} {x : RSt} (r : RyOk zs ys i c s h) (o : SOk zs ys i c h x) :
    0 ≤ adLo zs ys i c h x.k x.dn ∧ adLo zs ys i c h x.k x.dn ≤ adHi zs ys i c h x.k x.dn ∧ adHi zs ys i c h x.k x.dn ≤ 4000002000000000 := by
  unfold adLo adHi
  cases hin : inP zs.length x.k x.dn
  · simp
  · obtain ⟨hl, hn, hf, hfl⟩ := inP_l o.kl hin
    rw [if_pos rfl, if_pos rfl]
    cases hc : crB ys (i : Int) c h (fk x.k x.dn : Nat)
    · rw [if_neg (by simp), if_neg (by simp)]
      exact tn_bounds r hl x.dn (by rw [hn]; exact o.cr) (by rw [hf]; exact hc)
    · rw [if_pos rfl, if_pos rfl]
      have q1 : crB ys (i : Int) c h (anr (lk x.k x.dn) x.dn : Nat) = true := by rw [hn]; exact o.cr
      have q2 : crB ys (i : Int) c h (afr (lk x.k x.dn) x.dn : Nat) = true := by rw [hf]; exact hc
      obtain ⟨b1, b2⟩ : crB ys (i : Int) c h (lk x.k x.dn : Nat) = true ∧ crB ys (i : Int) c h (lk x.k x.dn + 1 : Nat) = true := by
        revert q1 q2
        cases x.dn
        · intro q1 q2; exact ⟨q2, q1⟩
        · intro q1 q2; exact ⟨q1, q2⟩
      obtain ⟨k1, k2, k3⟩ := cr_bounds r hl b1 b2
      exact ⟨k1, k2, by omega⟩
theorem SOk.next {zs ys : List Int} {i : Nat} {c s h : Int} {x : RSt} (r : RyOk zs ys i c s h) (o : SOk zs ys i c h x) (hb : nxB zs ys i c h x = true) : SOk zs ys i c h (nxt zs ys i c h x) := by
  obtain ⟨a1, a2, a3⟩ := o.ad r
  unfold nxB at hb
  rw [Bool.and_eq_true] at hb
  have v2 := (valB_t hb.2).2
  have l0 := o.l0
  have lh := o.lh
  have e1 : (nxt zs ys i c h x).lo = x.lo + adLo zs ys i c h x.k x.dn := rfl
  have e2 : (nxt zs ys i c h x).hi = x.hi + adHi zs ys i c h x.k x.dn := rfl
  have e3 : (nxt zs ys i c h x).k = if evV zs ys i c h x.k x.dn = 1 then fk x.k x.dn else x.k := rfl
  have hk : (nxt zs ys i c h x).k < zs.length ∧ crB ys (i : Int) c h ((nxt zs ys i c h x).k : Int) = true := by
    rw [e3]
    by_cases he : evV zs ys i c h x.k x.dn = 1
    · rw [if_pos he]
      unfold evV at he
      cases hin : inP zs.length x.k x.dn
      · rw [hin] at he; cases hd : x.dn <;> simp [hd] at he
      · obtain ⟨hl, hn, hf, hfl⟩ := inP_l o.kl hin
        refine ⟨hfl, ?_⟩
        rw [hin, if_pos rfl] at he
        cases hc : crB ys (i : Int) c h (fk x.k x.dn : Nat)
        · rw [hc] at he; simp at he
        · rfl
    · rw [if_neg he]; exact ⟨o.kl, o.cr⟩
  exact ⟨hk.1, hk.2, by omega, by omega, by omega⟩
/-- the states of a ray -/
def runS (zs ys : List Int) (i : Nat) (c h : Int) (x : RSt) : Nat → RSt
  | 0 => x
  | n + 1 => nxt zs ys i c h (runS zs ys i c h x n)
/-- do the first n events keep to values? -/
def okN (zs ys : List Int) (i : Nat) (c h : Int) (x : RSt) : Nat → Bool
  | 0 => true
  | n + 1 => okN zs ys i c h x n && nxB zs ys i c h (runS zs ys i c h x n)
theorem okN_less {zs ys : List Int} {i : Nat} {c h : Int} {x : RSt} : ∀ {n : Nat}, okN zs ys i c h x n = true → ∀ {m : Nat}, m ≤ n → okN zs ys i c h x m = true
  | 0, _, m, hm => by obtain rfl : m = 0 := by omega
                      rfl
  | n + 1, h, m, hm => by
    rcases Nat.lt_or_ge m (n + 1) with l | l
    · unfold okN at h
      rw [Bool.and_eq_true] at h
      exact okN_less h.1 (by omega)
    · obtain rfl : m = n + 1 := by omega
      exact h
theorem okN_more {zs ys : List Int} {i : Nat} {c h : Int} {x : RSt} {m n : Nat} (hm : okN zs ys i c h x m = false) (h' : m ≤ n) : okN zs ys i c h x n = false := by
  cases e : okN zs ys i c h x n
  · rfl
  · rw [okN_less e h'] at hm; exact hm
theorem SOk.run {zs ys : List Int} {i : Nat} {c s h : Int} {x : RSt} (r : RyOk zs ys i c s h) (o : SOk zs ys i c h x) : ∀ {n : Nat}, okN zs ys i c h x n = true → SOk zs ys i c h (runS zs ys i c h x n)
  | 0, _ => o
  | n + 1, e => by
    unfold okN at e
    rw [Bool.and_eq_true] at e
    exact (o.run r e.1).next r e.2
/-- the first state -/
def fst0 (i : Nat) (s : Int) : RSt := ⟨i, decide (0 < s), 0, 0⟩
theorem cr_self {zs ys : List Int} {i : Nat} {c s h : Int} (r : RyOk zs ys i c s h) : crB ys (i : Int) c h (i : Int) = true := by
  have h1 := r.ok.slo i r.hi
  have c2 : c < h := by
    rcases Int.lt_or_eq_of_le r.od.c2 with l | l
    · exact l
    · have hp := r.od.py
      rw [l] at hp
      have : s * s = 0 := by omega
      rcases Int.mul_eq_zero.1 this with e | e <;> exact absurd e r.od.s0
  unfold crB
  rw [rA_nat, rB_nat]
  exact decide_eq_true (Int.mul_lt_mul_of_pos_right (by omega) (by omega))
theorem SOk.first {zs ys : List Int} {i : Nat} {c s h : Int} (r : RyOk zs ys i c s h) : SOk zs ys i c h (fst0 i s) :=
  ⟨r.hi, cr_self r, Int.le_refl _, Int.le_refl _, by show (0 : Int) ≤ 1000000000000; omega⟩
/-- the codes -/
def fcod (zs ys : List Int) (src c s h : Int) : Int := rcod zs ys src c s h src
def tcod (zs ys : List Int) (src c s h n : Int) : Int :=
  if fcod zs ys src c s h = 0 then (if inB n 0 100 then (if okN zs ys src.toNat c h (fst0 src.toNat s) n.toNat then 0 else 3) else 2) else fcod zs ys src c s h
theorem fcod_0 {zs ys : List Int} {src c s h : Int} (e : fcod zs ys src c s h = 0) : ∃ i : Nat, src = (i : Int) ∧ RyOk zs ys i c s h := by
  obtain ⟨h1, h2, h3, -⟩ := rcT_0 e
  have g := hkB_t h3
  exact ⟨src.toNat, by omega, Okp.of h1, dirB_t h2, by omega⟩
theorem fcod_m (zs ys : List Int) (src c s h : Int) : rcod zs ys src c s h 0 = fcod zs ys src c s h := by
  unfold fcod rcod rcT
  cases hp : prfB zs ys
  · rfl
  · have h0 : hkB zs 0 = true := by
      have := (Okp.of hp).n2
      unfold hkB
      simp
      omega
    rw [h0]
    cases dirB c s h <;> cases hkB zs src <;> rfl
/-- the events, the ranges of the first n events -/
def evL (zs ys : List Int) (i : Nat) (c h : Int) (x : RSt) (n : Nat) : List Int := (List.range n).map fun j => evV zs ys i c h (runS zs ys i c h x j).k (runS zs ys i c h x j).dn
theorem evL_succ (zs ys : List Int) (i : Nat) (c h : Int) (x : RSt) (n : Nat) : evL zs ys i c h x (n + 1) = evL zs ys i c h x n ++ [evV zs ys i c h (runS zs ys i c h x n).k (runS zs ys i c h x n).dn] := by simp [evL, List.range_succ]
theorem evL_len (zs ys : List Int) (i : Nat) (c h : Int) (x : RSt) (n : Nat) : (evL zs ys i c h x n).length = n := by simp [evL]
end
section
/- Rays: the codes and the results of steps. -/
open Go.ChangeShapes Go.WideShapes Go.ChangeAt Go.RowKit Go.Shelf Num
set_option linter.unusedVariables false
set_option linter.unusedSimpArgs false
/-- results of a call -/
theorem resR {t : Int × Bool × Int × Int × Int × Int} {k : Int} {d : Bool} {l u e q : Int} (h : t = (k, d, l, u, e, q)) :
    Ending.returned (.tuple #[.agg #[.int .i64 k, .bool d, .int .i64 l, .int .i64 u], .int .i64 e, .int .i64 q]) = .returned (.tuple #[.agg #[.int .i64 t.1, .bool t.2.1, .int .i64 t.2.2.1, .int .i64 t.2.2.2.1], .int .i64 t.2.2.2.2.1, .int .i64 t.2.2.2.2.2]) := by subst h; rfl
theorem resP {t : Int × Int × Int × Int} {l u e q : Int} (h : t = (l, u, e, q)) :
    Ending.returned (.tuple #[.agg #[.int .i64 l, .int .i64 u], .int .i64 e, .int .i64 q]) = .returned (.tuple #[.agg #[.int .i64 t.1, .int .i64 t.2.1], .int .i64 t.2.2.1, .int .i64 t.2.2.2]) := by subst h; rfl
/-- the range in a layer that is not shut, the verdict, the code -/
def pasT (zs ys : List Int) (i : Nat) (c h : Int) (l : Nat) (ab : Bool) : Int × Int × Int × Int :=
  if crB ys (i : Int) c h (afr l ab : Nat) then
    (if (lim (crLo zs ys i c h l) (crHi zs ys i c h l)).2.2 = 0 then ((lim (crLo zs ys i c h l) (crHi zs ys i c h l)).1, (lim (crLo zs ys i c h l) (crHi zs ys i c h l)).2.1, 1, 0) else (0, 0, 0, (lim (crLo zs ys i c h l) (crHi zs ys i c h l)).2.2))
  else
    (if (lim (tnLo zs ys i c h l ab) (tnHi zs ys i c h l ab)).2.2 = 0 then ((lim (tnLo zs ys i c h l ab) (tnHi zs ys i c h l ab)).1, (lim (tnLo zs ys i c h l ab) (tnHi zs ys i c h l ab)).2.1, 2, 0) else (0, 0, 0, (lim (tnLo zs ys i c h l ab) (tnHi zs ys i c h l ab)).2.2))
/-- the passage of a layer that lies ahead -/
theorem pas_step {zs ys : List Int} {i : Nat} {c s h : Int} {x : RSt} (r : RyOk zs ys i c s h) (o : SOk zs ys i c h x) (hin : inP zs.length x.k x.dn = true) :
    pasT zs ys i c h (lk x.k x.dn) x.dn = (if valB (adLo zs ys i c h x.k x.dn) && valB (adHi zs ys i c h x.k x.dn) then (adLo zs ys i c h x.k x.dn, adHi zs ys i c h x.k x.dn, evV zs ys i c h x.k x.dn, 0) else (0, 0, 0, 3)) := by
  obtain ⟨hl, hn, hf, hfl⟩ := inP_l o.kl hin
  unfold pasT adLo adHi evV
  rw [hin, hf]
  cases hc : crB ys (i : Int) c h (fk x.k x.dn : Nat)
  all_goals
    simp only [if_true, if_false, Bool.false_eq_true]
    unfold lim
    split
    · rfl
    · rfl
/-- what is added is no value: the sum is none -/
theorem nx_of_ad {zs ys : List Int} {i : Nat} {c s h : Int} {x : RSt} (r : RyOk zs ys i c s h) (o : SOk zs ys i c h x) (hv : (valB (adLo zs ys i c h x.k x.dn) && valB (adHi zs ys i c h x.k x.dn)) = false) : nxB zs ys i c h x = false := by
  obtain ⟨a1, a2, a3⟩ := o.ad r
  have l0 := o.l0
  have lh := o.lh
  cases e : nxB zs ys i c h x
  · rfl
  · unfold nxB at e
    rw [Bool.and_eq_true] at e
    have v2 := (valB_t e.2).2
    have e2 : (nxt zs ys i c h x).hi = x.hi + adHi zs ys i c h x.k x.dn := rfl
    rw [e2] at v2
    rw [valB_mk (by omega) (by omega), valB_mk (by omega) (by omega)] at hv
    simp at hv
theorem nx_lim {zs ys : List Int} {i : Nat} {c h : Int} {x : RSt} : lim (x.lo + adLo zs ys i c h x.k x.dn) (x.hi + adHi zs ys i c h x.k x.dn) = if nxB zs ys i c h x then ((nxt zs ys i c h x).lo, (nxt zs ys i c h x).hi, 0) else (0, 0, 3) := rfl
/-- a reflection -/
theorem nx_out {zs ys : List Int} {i : Nat} {c h : Int} {x : RSt} (o : SOk zs ys i c h x) (hin : inP zs.length x.k x.dn = false) : nxB zs ys i c h x = true ∧ nxt zs ys i c h x = ⟨x.k, !x.dn, x.lo, x.hi⟩ ∧ evV zs ys i c h x.k x.dn = if x.dn then 4 else 3 := by
  have e1 : adLo zs ys i c h x.k x.dn = 0 := by unfold adLo; rw [hin]; rfl
  have e2 : adHi zs ys i c h x.k x.dn = 0 := by unfold adHi; rw [hin]; rfl
  have e3 : evV zs ys i c h x.k x.dn = if x.dn then 4 else 3 := by unfold evV; rw [hin]; rfl
  have e4 : nxt zs ys i c h x = ⟨x.k, !x.dn, x.lo, x.hi⟩ := by
    unfold nxt
    rw [e1, e2, e3, Int.add_zero, Int.add_zero]
    cases x.dn <;> rfl
  have l0 := o.l0
  have lh := o.lh
  have h1 := o.h1
  refine ⟨?_, e4, e3⟩
  unfold nxB
  rw [e4]
  show (valB x.lo && valB x.hi) = true
  rw [valB_mk (by omega) (by omega), valB_mk (by omega) (by omega)]
  rfl
/-- a layer ahead: the state behind -/
theorem nx_in {zs ys : List Int} {i : Nat} {c h : Int} {x : RSt} (hin : inP zs.length x.k x.dn = true) : (evV zs ys i c h x.k x.dn = 1 ∧ (nxt zs ys i c h x).k = fk x.k x.dn ∧ (nxt zs ys i c h x).dn = x.dn) ∨ (evV zs ys i c h x.k x.dn = 2 ∧ (nxt zs ys i c h x).k = x.k ∧ (nxt zs ys i c h x).dn = !x.dn) := by
  unfold nxt
  unfold evV
  rw [hin]
  cases crB ys (i : Int) c h (fk x.k x.dn : Nat)
  · right; exact ⟨rfl, rfl, rfl⟩
  · left; exact ⟨rfl, rfl, rfl⟩
end
end Go.Proofs.YtgecbfbmmbfnmaaGreat
