/- Rays: what the program and the model compute, as integers, and plain facts of it. -/
import Derived.Test.YtgecbfbmmbfnmaaArcR
namespace Go.Proofs.Ytgecbfbmmbfnmaa
open Go.ChangeShapes Go.WideShapes Go.ChangeAt Go.RowKit Go.Shelf Num
set_option linter.unusedVariables false

/-- a state of a ray: its knot, down or not, the bounds of its range -/
structure RSt where
  k : Nat
  dn : Bool
  lo : Int
  hi : Int
/-- the knot ahead, the layer ahead -/
def fk (k : Nat) (dn : Bool) : Nat := if dn then k + 1 else k - 1
def lk (k : Nat) (dn : Bool) : Nat := if dn then k else k - 1
/-- does a layer lie ahead? -/
def inP (n k : Nat) (dn : Bool) : Bool := if dn then decide (k + 1 < n) else decide (0 < k)
theorem inP_l {n k : Nat} {dn : Bool} (hk : k < n) (h : inP n k dn = true) : lk k dn + 1 < n ∧ anr (lk k dn) dn = k ∧ afr (lk k dn) dn = fk k dn ∧ fk k dn < n := by
  cases dn
  · have h' : 0 < k := by simpa [inP] using h
    show k - 1 + 1 < n ∧ k - 1 + 1 = k ∧ k - 1 = k - 1 ∧ k - 1 < n
    omega
  · have h' : k + 1 < n := by simpa [inP] using h
    show k + 1 < n ∧ k = k ∧ k + 1 = k + 1 ∧ k + 1 < n
    omega
/-- the next event -/
def evV (zs ys : List Int) (i : Nat) (c h : Int) (k : Nat) (dn : Bool) : Int :=
  if inP zs.length k dn then (if crB ys (i : Int) c h (fk k dn : Nat) then 1 else 2) else (if dn then 4 else 3)
/-- what it adds to the range -/
def adLo (zs ys : List Int) (i : Nat) (c h : Int) (k : Nat) (dn : Bool) : Int :=
  if inP zs.length k dn then (if crB ys (i : Int) c h (fk k dn : Nat) then crLo zs ys i c h (lk k dn) else tnLo zs ys i c h (lk k dn) dn) else 0
def adHi (zs ys : List Int) (i : Nat) (c h : Int) (k : Nat) (dn : Bool) : Int :=
  if inP zs.length k dn then (if crB ys (i : Int) c h (fk k dn : Nat) then crHi zs ys i c h (lk k dn) else tnHi zs ys i c h (lk k dn) dn) else 0
/-- the state behind it -/
def nxt (zs ys : List Int) (i : Nat) (c h : Int) (x : RSt) : RSt :=
  ⟨if evV zs ys i c h x.k x.dn = 1 then fk x.k x.dn else x.k, if evV zs ys i c h x.k x.dn = 1 then x.dn else !x.dn, x.lo + adLo zs ys i c h x.k x.dn, x.hi + adHi zs ys i c h x.k x.dn⟩
def nxB (zs ys : List Int) (i : Nat) (c h : Int) (x : RSt) : Bool := valB (nxt zs ys i c h x).lo && valB (nxt zs ys i c h x).hi
/-- a valid state -/
structure SOk (zs ys : List Int) (i : Nat) (c h : Int) (x : RSt) : Prop where
  kl : x.k < zs.length
  cr : crB ys (i : Int) c h (x.k : Int) = true
  l0 : 0 ≤ x.lo
  lh : x.lo ≤ x.hi
  h1 : x.hi ≤ 1000000000000
theorem natAbs_step {zs ys : List Int} {i : Nat} {c s h : Int} (r : RyOk zs ys i c s h) {l : Nat} (hl : l + 1 < zs.length) (ab : Bool) : ((zs.getD (afr l ab) 0 - zs.getD (anr l ab) 0).natAbs : Int) = zD zs l := by
  have hz := r.z hl
  unfold zD at hz ⊢
  cases ab
  · show ((zs.getD l 0 - zs.getD (l + 1) 0).natAbs : Int) = _
    omega
  · show ((zs.getD (l + 1) 0 - zs.getD l 0).natAbs : Int) = _
    omega
/-- the range of a crossing by its near and its far knot -/
theorem cr_near {zs ys : List Int} {i : Nat} {c s h : Int} (r : RyOk zs ys i c s h) {l : Nat} (hl : l + 1 < zs.length) (ab : Bool) :
    (((zs.getD (afr l ab) 0 - zs.getD (anr l ab) 0).natAbs : Int) * (c * ys.getD (anr l ab) 0 + c * ys.getD (afr l ab) 0)).fdiv (sHi ys i c h (anr l ab) + sHi ys i c h (afr l ab)) = crLo zs ys i c h l
    ∧ cdiv (((zs.getD (afr l ab) 0 - zs.getD (anr l ab) 0).natAbs : Int) * (c * ys.getD (anr l ab) 0 + c * ys.getD (afr l ab) 0)) (sLo ys i c h (anr l ab) + sLo ys i c h (afr l ab)) = crHi zs ys i c h l := by
  rw [natAbs_step r hl ab]
  have e : zD zs l * (c * ys.getD (anr l ab) 0 + c * ys.getD (afr l ab) 0) = crN zs ys c l := by
    unfold crN
    rw [← Int.mul_add, ← Int.mul_assoc]
    cases ab
    · show zD zs l * c * (ys.getD (l + 1) 0 + ys.getD l 0) = _
      rw [Int.add_comm]
    · rfl
  rw [e]
  unfold crLo crHi
  cases ab
  · show (crN zs ys c l).fdiv (sHi ys i c h (l + 1) + sHi ys i c h l) = _ ∧ cdiv (crN zs ys c l) (sLo ys i c h (l + 1) + sLo ys i c h l) = _
    rw [Int.add_comm (sHi ys i c h (l + 1)), Int.add_comm (sLo ys i c h (l + 1))]
    exact ⟨rfl, rfl⟩
  · exact ⟨rfl, rfl⟩
theorem tn_near {zs ys : List Int} {i : Nat} {c s h : Int} (r : RyOk zs ys i c s h) {l : Nat} (hl : l + 1 < zs.length) (ab : Bool) :
    (2 * ((zs.getD (afr l ab) 0 - zs.getD (anr l ab) 0).natAbs : Int) * sLo ys i c h (anr l ab)).fdiv (riS ys c (anr l ab) (afr l ab)) = tnLo zs ys i c h l ab
    ∧ cdiv (2 * ((zs.getD (afr l ab) 0 - zs.getD (anr l ab) 0).natAbs : Int) * sHi ys i c h (anr l ab)) (riS ys c (anr l ab) (afr l ab)) = tnHi zs ys i c h l ab := by
  rw [natAbs_step r hl ab]
  exact ⟨rfl, rfl⟩
/-- the bounds of a crossing -/
theorem cr_bounds {zs ys : List Int} {i : Nat} {c s h : Int} (r : RyOk zs ys i c s h) {l : Nat} (hl : l + 1 < zs.length) (e1 : crB ys (i : Int) c h (l : Int) = true) (e2 : crB ys (i : Int) c h ((l + 1 : Nat) : Int) = true) :
    0 ≤ crLo zs ys i c h l ∧ crLo zs ys i c h l ≤ crHi zs ys i c h l ∧ crHi zs ys i c h l ≤ 3400000000000000 := by
  obtain ⟨o1, o2⟩ := cr_order r hl e1 e2
  have g1 := (r.sn e1).l1
  have g2 := (r.sn e2).l1
  have hN := (r.crb hl).2.2.2
  refine ⟨o1, o2, (cdiv_le_q (by omega)).2 ?_⟩
  have := Int.mul_le_mul_of_nonneg_left (show 1 ≤ sLo ys i c h l + sLo ys i c h (l + 1) by omega) (show (0 : Int) ≤ 3400000000000000 by omega)
  omega
/-- the bounds of a turn -/
theorem tn_bounds {zs ys : List Int} {i : Nat} {c s h : Int} (r : RyOk zs ys i c s h) {l : Nat} (hl : l + 1 < zs.length) (ab : Bool) (e1 : crB ys (i : Int) c h (anr l ab : Nat) = true) (e2 : crB ys (i : Int) c h (afr l ab : Nat) = false) :
    0 ≤ tnLo zs ys i c h l ab ∧ tnLo zs ys i c h l ab ≤ tnHi zs ys i c h l ab ∧ tnHi zs ys i c h l ab ≤ 4000002000000000 := by
  have hz := r.z hl
  obtain ⟨t1, t2, t3, t4, -⟩ := r.turn e1 e2
  have g := r.sn e1
  have a1 := g.l1
  have a2 := g.l2
  have a3 := g.lh
  have a4 := g.h2
  have m1 := mul_in (a := 2 * zD zs l) (b := sLo ys i c h (anr l ab)) (A := 2000000) (B := 2000000001) (by omega) (by omega) (by omega) (by omega)
  have m2 := mul_in (a := 2 * zD zs l) (b := sHi ys i c h (anr l ab)) (A := 2000000) (B := 2000000001) (by omega) (by omega) (by omega) (by omega)
  have m3 := Int.mul_le_mul_of_nonneg_left a3 (show 0 ≤ 2 * zD zs l by omega)
  have hw : 0 < riS ys c (anr l ab) (afr l ab) := by omega
  have f1 := fdiv_mono (m := riS ys c (anr l ab) (afr l ab)) m3 hw
  have f2 := fdiv_le_cdiv (a := 2 * zD zs l * sHi ys i c h (anr l ab)) hw
  refine ⟨fdiv_ge0 m1.1 hw, by unfold tnLo tnHi; omega, (cdiv_le_q hw).2 ?_⟩
  have := Int.mul_le_mul_of_nonneg_left (show 1 ≤ riS ys c (anr l ab) (afr l ab) by omega) (show (0 : Int) ≤ 4000002000000000 by omega)
  omega
theorem SOk.ad {zs ys : List Int} {i : Nat} {c s h : Int} {x : RSt} (r : RyOk zs ys i c s h) (o : SOk zs ys i c h x) :
    0 ≤ adLo zs ys i c h x.k x.dn ∧ adLo zs ys i c h x.k x.dn ≤ adHi zs ys i c h x.k x.dn ∧ adHi zs ys i c h x.k x.dn ≤ 4000002000000000 := by
  unfold adLo adHi
  cases hin : inP zs.length x.k x.dn
  · simp
  · obtain ⟨hl, hn, hf, hfl⟩ := inP_l o.kl hin
    rw [if_pos rfl, if_pos rfl]
    cases hc : crB ys (i : Int) c h (fk x.k x.dn : Nat)
    · rw [if_neg (by simp), if_neg (by simp)]
      exact tn_bounds r hl x.dn (by rw [hn]; exact o.cr) (by rw [hf]; exact hc)
    · rw [if_pos rfl, if_pos rfl]
      have q1 : crB ys (i : Int) c h (anr (lk x.k x.dn) x.dn : Nat) = true := by rw [hn]; exact o.cr
      have q2 : crB ys (i : Int) c h (afr (lk x.k x.dn) x.dn : Nat) = true := by rw [hf]; exact hc
      obtain ⟨b1, b2⟩ : crB ys (i : Int) c h (lk x.k x.dn : Nat) = true ∧ crB ys (i : Int) c h (lk x.k x.dn + 1 : Nat) = true := by
        revert q1 q2
        cases x.dn
        · intro q1 q2; exact ⟨q2, q1⟩
        · intro q1 q2; exact ⟨q1, q2⟩
      obtain ⟨k1, k2, k3⟩ := cr_bounds r hl b1 b2
      exact ⟨k1, k2, by omega⟩
theorem SOk.next {zs ys : List Int} {i : Nat} {c s h : Int} {x : RSt} (r : RyOk zs ys i c s h) (o : SOk zs ys i c h x) (hb : nxB zs ys i c h x = true) : SOk zs ys i c h (nxt zs ys i c h x) := by
  obtain ⟨a1, a2, a3⟩ := o.ad r
  unfold nxB at hb
  rw [Bool.and_eq_true] at hb
  have v2 := (valB_t hb.2).2
  have l0 := o.l0
  have lh := o.lh
  have e1 : (nxt zs ys i c h x).lo = x.lo + adLo zs ys i c h x.k x.dn := rfl
  have e2 : (nxt zs ys i c h x).hi = x.hi + adHi zs ys i c h x.k x.dn := rfl
  have e3 : (nxt zs ys i c h x).k = if evV zs ys i c h x.k x.dn = 1 then fk x.k x.dn else x.k := rfl
  have hk : (nxt zs ys i c h x).k < zs.length ∧ crB ys (i : Int) c h ((nxt zs ys i c h x).k : Int) = true := by
    rw [e3]
    by_cases he : evV zs ys i c h x.k x.dn = 1
    · rw [if_pos he]
      unfold evV at he
      cases hin : inP zs.length x.k x.dn
      · rw [hin] at he; cases hd : x.dn <;> simp [hd] at he
      · obtain ⟨hl, hn, hf, hfl⟩ := inP_l o.kl hin
        refine ⟨hfl, ?_⟩
        rw [hin, if_pos rfl] at he
        cases hc : crB ys (i : Int) c h (fk x.k x.dn : Nat)
        · rw [hc] at he; simp at he
        · rfl
    · rw [if_neg he]; exact ⟨o.kl, o.cr⟩
  exact ⟨hk.1, hk.2, by omega, by omega, by omega⟩
/-- the states of a ray -/
def runS (zs ys : List Int) (i : Nat) (c h : Int) (x : RSt) : Nat → RSt
  | 0 => x
  | n + 1 => nxt zs ys i c h (runS zs ys i c h x n)
/-- do the first n events keep to values? -/
def okN (zs ys : List Int) (i : Nat) (c h : Int) (x : RSt) : Nat → Bool
  | 0 => true
  | n + 1 => okN zs ys i c h x n && nxB zs ys i c h (runS zs ys i c h x n)
theorem okN_less {zs ys : List Int} {i : Nat} {c h : Int} {x : RSt} : ∀ {n : Nat}, okN zs ys i c h x n = true → ∀ {m : Nat}, m ≤ n → okN zs ys i c h x m = true
  | 0, _, m, hm => by obtain rfl : m = 0 := by omega
                      rfl
  | n + 1, h, m, hm => by
    rcases Nat.lt_or_ge m (n + 1) with l | l
    · unfold okN at h
      rw [Bool.and_eq_true] at h
      exact okN_less h.1 (by omega)
    · obtain rfl : m = n + 1 := by omega
      exact h
theorem okN_more {zs ys : List Int} {i : Nat} {c h : Int} {x : RSt} {m n : Nat} (hm : okN zs ys i c h x m = false) (h' : m ≤ n) : okN zs ys i c h x n = false := by
  cases e : okN zs ys i c h x n
  · rfl
  · rw [okN_less e h'] at hm; exact hm
theorem SOk.run {zs ys : List Int} {i : Nat} {c s h : Int} {x : RSt} (r : RyOk zs ys i c s h) (o : SOk zs ys i c h x) : ∀ {n : Nat}, okN zs ys i c h x n = true → SOk zs ys i c h (runS zs ys i c h x n)
  | 0, _ => o
  | n + 1, e => by
    unfold okN at e
    rw [Bool.and_eq_true] at e
    exact (o.run r e.1).next r e.2
/-- the first state -/
def fst0 (i : Nat) (s : Int) : RSt := ⟨i, decide (0 < s), 0, 0⟩
theorem cr_self {zs ys : List Int} {i : Nat} {c s h : Int} (r : RyOk zs ys i c s h) : crB ys (i : Int) c h (i : Int) = true := by
  have h1 := r.ok.slo i r.hi
  have c2 : c < h := by
    rcases Int.lt_or_eq_of_le r.od.c2 with l | l
    · exact l
    · have hp := r.od.py
      rw [l] at hp
      have : s * s = 0 := by omega
      rcases Int.mul_eq_zero.1 this with e | e <;> exact absurd e r.od.s0
  unfold crB
  rw [rA_nat, rB_nat]
  exact decide_eq_true (Int.mul_lt_mul_of_pos_right (by omega) (by omega))
theorem SOk.first {zs ys : List Int} {i : Nat} {c s h : Int} (r : RyOk zs ys i c s h) : SOk zs ys i c h (fst0 i s) :=
  ⟨r.hi, cr_self r, Int.le_refl _, Int.le_refl _, by show (0 : Int) ≤ 1000000000000; omega⟩
/-- the codes -/
def fcod (zs ys : List Int) (src c s h : Int) : Int := rcod zs ys src c s h src
def tcod (zs ys : List Int) (src c s h n : Int) : Int :=
  if fcod zs ys src c s h = 0 then (if inB n 0 100 then (if okN zs ys src.toNat c h (fst0 src.toNat s) n.toNat then 0 else 3) else 2) else fcod zs ys src c s h
theorem fcod_0 {zs ys : List Int} {src c s h : Int} (e : fcod zs ys src c s h = 0) : ∃ i : Nat, src = (i : Int) ∧ RyOk zs ys i c s h := by
  obtain ⟨h1, h2, h3, -⟩ := rcT_0 e
  have g := hkB_t h3
  exact ⟨src.toNat, by omega, Okp.of h1, dirB_t h2, by omega⟩
theorem fcod_m (zs ys : List Int) (src c s h : Int) : rcod zs ys src c s h 0 = fcod zs ys src c s h := by
  unfold fcod rcod rcT
  cases hp : prfB zs ys
  · rfl
  · have h0 : hkB zs 0 = true := by
      have := (Okp.of hp).n2
      unfold hkB
      simp
      omega
    rw [h0]
    cases dirB c s h <;> cases hkB zs src <;> rfl
/-- the events, the ranges of the first n events -/
def evL (zs ys : List Int) (i : Nat) (c h : Int) (x : RSt) (n : Nat) : List Int := (List.range n).map fun j => evV zs ys i c h (runS zs ys i c h x j).k (runS zs ys i c h x j).dn
theorem evL_succ (zs ys : List Int) (i : Nat) (c h : Int) (x : RSt) (n : Nat) : evL zs ys i c h x (n + 1) = evL zs ys i c h x n ++ [evV zs ys i c h (runS zs ys i c h x n).k (runS zs ys i c h x n).dn] := by simp [evL, List.range_succ]
theorem evL_len (zs ys : List Int) (i : Nat) (c h : Int) (x : RSt) (n : Nat) : (evL zs ys i c h x n).length = n := by simp [evL]
def rgL (zs ys : List Int) (i : Nat) (c h : Int) (x : RSt) (n : Nat) : List (Int × Int) := (List.range n).map fun j => ((runS zs ys i c h x (j + 1)).lo, (runS zs ys i c h x (j + 1)).hi)
theorem rgL_succ (zs ys : List Int) (i : Nat) (c h : Int) (x : RSt) (n : Nat) : rgL zs ys i c h x (n + 1) = rgL zs ys i c h x n ++ [((runS zs ys i c h x (n + 1)).lo, (runS zs ys i c h x (n + 1)).hi)] := by simp [rgL, List.range_succ]
theorem rgL_len (zs ys : List Int) (i : Nat) (c h : Int) (x : RSt) (n : Nat) : (rgL zs ys i c h x n).length = n := by simp [rgL]
end Go.Proofs.Ytgecbfbmmbfnmaa
