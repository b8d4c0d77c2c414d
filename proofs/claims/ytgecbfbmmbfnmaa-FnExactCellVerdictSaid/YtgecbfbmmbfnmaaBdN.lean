/- What an event can add to the range of a ray, by the thickness of its layer. -/
import Derived.Test.YtgecbfbmmbfnmaaRyM
namespace Go.Proofs.Ytgecbfbmmbfnmaa
open Num
set_option linter.unusedVariables false
/-- no cosine of a valid direction is greater than 957 -/
def cosK : Bool := (List.range 42).all fun a => (List.range 42).all fun b => if b < a then true else (List.range 290).all fun s => !((958 + a) * (958 + a) + (s + 1) * (s + 1) == (959 + b) * (959 + b)) || !(Nat.gcd (Nat.gcd (958 + a) (s + 1)) (959 + b) == 1)
set_option maxRecDepth 100000 in
theorem cosK_t : cosK = true := by kernel_rfl
theorem sq_nat (a : Int) : a * a = ((a.natAbs * a.natAbs : Nat) : Int) := by rw [Int.natCast_mul]; exact (Int.natAbs_mul_self' a).symm
theorem cos_le {c s h : Int} (o : DirOk c s h) : c ≤ 957 := by
  rcases Int.lt_or_le 957 c with l | l
  rotate_left
  · exact l
  have hc := o.c1
  have h2 := o.h2
  have hp := o.py
  have s0 := o.s0
  have c2 : c < h := by
    rcases Int.lt_or_eq_of_le o.c2 with l | l
    · exact l
    · rw [l] at hp
      have : s * s = 0 := by omega
      rcases Int.mul_eq_zero.1 this with e | e <;> exact absurd e s0
  obtain ⟨a, ha⟩ : ∃ a : Nat, c = ((958 + a : Nat) : Int) := ⟨(c - 958).toNat, by omega⟩
  obtain ⟨b, hb⟩ : ∃ b : Nat, h = ((959 + b : Nat) : Int) := ⟨(h - 959).toNat, by omega⟩
  obtain ⟨t, ht⟩ : ∃ t : Nat, s.natAbs = t + 1 := ⟨s.natAbs - 1, by omega⟩
  have hss := sq_nat s
  rw [ht] at hss
  have hN : (958 + a) * (958 + a) + (t + 1) * (t + 1) = (959 + b) * (959 + b) := by
    rw [hss, ha, hb] at hp
    have hp2 : (((958 + a) * (958 + a) + (t + 1) * (t + 1) : Nat) : Int) = (((959 + b) * (959 + b) : Nat) : Int) := by rw [Int.natCast_add, Int.natCast_mul (958 + a), Int.natCast_mul (959 + b)]; exact hp
    exact Int.ofNat.inj hp2
  have b1 : a < 42 := by omega
  have b2 : b < 42 := by omega
  have b3 : ¬ b < a := by omega
  have b4 : t < 290 := by
    rcases Nat.lt_or_ge t 290 with l | l
    · exact l
    · have m1 := Nat.mul_le_mul (show 291 ≤ t + 1 by omega) (show 291 ≤ t + 1 by omega)
      have m2 := Nat.mul_le_mul (show 958 ≤ 958 + a by omega) (show 958 ≤ 958 + a by omega)
      have m3 := Nat.mul_le_mul (show 959 + b ≤ 1000 by omega) (show 959 + b ≤ 1000 by omega)
      omega
  have hg : Nat.gcd (Nat.gcd (958 + a) (t + 1)) (959 + b) = 1 := by
    have := o.gg
    unfold g3 gc Int.gcd at this
    rw [ha, hb, ht, Int.natAbs_natCast, Int.natAbs_natCast, Int.natAbs_natCast] at this
    exact Int.ofNat.inj this
  have k := cosK_t
  unfold cosK at k
  have k1 := List.all_eq_true.1 (List.all_eq_true.1 k a (List.mem_range.2 b1)) b (List.mem_range.2 b2)
  rw [if_neg b3] at k1
  have k2 := List.all_eq_true.1 k1 t (List.mem_range.2 b4)
  rw [hN, hg] at k2
  simp at k2
theorem root_far {N Y t : Int} (ht : rt N = t) (h0 : 0 ≤ N) (h1 : 2 * Y + 1 ≤ N) (h2 : Y ≤ 1626900000) (h3 : 1 ≤ t) : Y ≤ 28540 * t := by
  have h4 := (rt_sq N h0).2
  rw [ht] at h4
  rcases Int.lt_or_le t 57005 with l | l
  · have e : (t + 1) * (t + 1) = t * t + 2 * t + 1 := by rw [Int.add_mul, Int.mul_add]; omega
    have m := Int.mul_le_mul_of_nonneg_right (show t ≤ 57004 by omega) (show 0 ≤ t by omega)
    omega
  · omega
theorem root_near {N Y t : Int} (ht : rt N = t) (h0 : 0 ≤ N) (h1 : 2716 * Y ≤ N) (h2 : Y ≤ 1626900000) (h3 : 1 ≤ t) : Y ≤ 780 * t := by
  have h4 := (rt_sq N h0).2
  rw [ht] at h4
  rcases Int.lt_or_le t 2085770 with l | l
  · have e : (t + 1) * (t + 1) = t * t + 2 * t + 1 := by rw [Int.add_mul, Int.mul_add]; omega
    have m := Int.mul_le_mul_of_nonneg_right (show t ≤ 2085769 by omega) (show 0 ≤ t by omega)
    omega
  · omega
theorem root_ge {N k : Int} (hk : 0 ≤ k) (h0 : 0 ≤ N) (h : k * k ≤ N) : k ≤ rt N := by
  have h4 := (rt_sq N h0).2
  have h5 := rt_nonneg N
  rcases Int.lt_or_le (rt N) k with l | l
  · have m := Int.mul_le_mul (show rt N + 1 ≤ k by omega) (show rt N + 1 ≤ k by omega) (by omega) hk
    omega
  · exact l
/-- a bound of a crossing -/
theorem cr_up {zs ys : List Int} {i : Nat} {c s h : Int} (r : RyOk zs ys i c s h) {l : Nat} (hl : l + 1 < zs.length) (e1 : crB ys (i : Int) c h (l : Int) = true) (e2 : crB ys (i : Int) c h ((l + 1 : Nat) : Int) = true) {G : Int} (hG : 0 ≤ G)
    (hb : c * (ys.getD l 0 + ys.getD (l + 1) 0) ≤ G * (sLo ys i c h l + sLo ys i c h (l + 1))) : crHi zs ys i c h l ≤ G * zD zs l := by
  have g1 := (r.sn e1).l1
  have g2 := (r.sn e2).l1
  have hz := r.z hl
  unfold crHi
  refine (cdiv_le_q (by omega)).2 ?_
  have m := Int.mul_le_mul_of_nonneg_left hb (show 0 ≤ zD zs l by omega)
  unfold crN
  rw [Int.mul_assoc (zD zs l), show G * zD zs l * (sLo ys i c h l + sLo ys i c h (l + 1)) = zD zs l * (G * (sLo ys i c h l + sLo ys i c h (l + 1))) by rw [Int.mul_comm G, Int.mul_assoc]]
  exact m
theorem RyOk.c957 {zs ys : List Int} {i : Nat} {c s h : Int} (r : RyOk zs ys i c s h) : 1 ≤ c ∧ c ≤ 957 := ⟨r.od.c1, cos_le r.od⟩
/-- where the speeds differ -/
theorem cr_diff {zs ys : List Int} {i : Nat} {c s h : Int} (r : RyOk zs ys i c s h) {l : Nat} (hl : l + 1 < zs.length) (e1 : crB ys (i : Int) c h (l : Int) = true) (e2 : crB ys (i : Int) c h ((l + 1 : Nat) : Int) = true) (hne : ys.getD l 0 ≠ ys.getD (l + 1) 0) : crHi zs ys i c h l ≤ 3700 * zD zs l := by
  have hc := r.c957
  have l1 := crB_lt e1
  have l2 := crB_lt e2
  have v1 := r.ok.slo l (by omega)
  have v2 := r.ok.slo (l + 1) hl
  have w1 := r.ok.shi l
  have w2 := r.ok.shi (l + 1)
  have s1 := r.sn e1
  have s2 := r.sn e2
  have q1 := s1.l1
  have q2 := s2.l1
  have E1 := sqN_eq ys i l c h
  have E2 := sqN_eq ys i (l + 1) c h
  obtain ⟨X, hX⟩ : ∃ X, h * ys.getD i 0 = X := ⟨_, rfl⟩
  obtain ⟨u, hu⟩ : ∃ u, ys.getD l 0 = u := ⟨_, rfl⟩
  obtain ⟨v, hv⟩ : ∃ v, ys.getD (l + 1) 0 = v := ⟨_, rfl⟩
  rw [hX, hu] at l1 E1
  rw [hX, hv] at l2 E2
  rw [hu] at v1 w1
  rw [hv] at v2 w2
  rw [hu, hv] at hne
  have key : ∀ a b : Int, 1300000 ≤ a → a < b → c * b < X → 0 ≤ X * X - (c * a) * (c * a) → 1612 * c ≤ rt (X * X - (c * a) * (c * a)) := by
    intro a b ha hab hbX h0
    refine root_ge (by omega) h0 ?_
    have m1 : (c * b) * (c * b) ≤ X * X := Int.mul_le_mul (by omega) (by omega) (Int.mul_nonneg (by omega) (by omega)) (by have := Int.mul_nonneg (show 0 ≤ c by omega) (show 0 ≤ b by omega); omega)
    have e : (c * b) * (c * b) - (c * a) * (c * a) = (c * c) * ((b - a) * (b + a)) := by
      rw [sq_dif b a, Int.mul_sub, Int.mul_assoc c b, Int.mul_assoc c a, ← Int.mul_assoc b c b, ← Int.mul_assoc a c a, Int.mul_comm b c, Int.mul_comm a c, Int.mul_assoc c b b, Int.mul_assoc c a a, ← Int.mul_assoc c c, ← Int.mul_assoc c c]
    have m2 := Int.mul_le_mul (show 1 ≤ b - a by omega) (show 2600000 ≤ b + a by omega) (by omega) (by omega)
    have m3 := Int.mul_le_mul_of_nonneg_left m2 (Int.mul_nonneg (show 0 ≤ c by omega) (show 0 ≤ c by omega))
    have e2 : 1612 * c * (1612 * c) = c * c * 2598544 := by rw [Int.mul_assoc 1612 c, Int.mul_left_comm c 1612 c, ← Int.mul_assoc 1612 1612, Int.mul_comm _ (c * c)]; rfl
    have m4 := Int.mul_nonneg (show 0 ≤ c by omega) (show 0 ≤ c by omega)
    rw [e2]
    have m5 := Int.mul_le_mul_of_nonneg_left (show (2598544 : Int) ≤ 2600000 by omega) m4
    omega
  refine cr_up r hl e1 e2 (by omega) ?_
  rw [hu, hv]
  have m := Int.mul_le_mul_of_nonneg_left (show u + v ≤ 3400000 by omega) (show 0 ≤ c by omega)
  have n1 := s1.n1
  have n2 := s2.n1
  rcases Int.lt_or_gt_of_ne hne with lt | lt
  · have k := key u v v1 lt l2 (by omega)
    rw [← E1] at k
    have : 1612 * c ≤ sLo ys i c h l := k
    omega
  · have k := key v u v2 lt l1 (by omega)
    rw [← E2] at k
    have : 1612 * c ≤ sLo ys i c h (l + 1) := k
    omega
/-- where the speeds are the same -/
theorem cr_same {zs ys : List Int} {i : Nat} {c s h : Int} (r : RyOk zs ys i c s h) {l : Nat} (hl : l + 1 < zs.length) (e1 : crB ys (i : Int) c h (l : Int) = true) (e2 : crB ys (i : Int) c h ((l + 1 : Nat) : Int) = true) (he : ys.getD l 0 = ys.getD (l + 1) 0) {G : Int} (hG : 0 ≤ G)
    (hb : c * ys.getD l 0 ≤ G * sLo ys i c h l) : crHi zs ys i c h l ≤ G * zD zs l := by
  refine cr_up r hl e1 e2 hG ?_
  have e : sLo ys i c h (l + 1) = sLo ys i c h l := by unfold sLo; rw [sqN_eq, sqN_eq, he]
  rw [← he, e, Int.mul_add, Int.mul_add]
  omega
theorem cr_one {zs ys : List Int} {i : Nat} {c s h : Int} (r : RyOk zs ys i c s h) {l : Nat} (hl : l + 1 < zs.length) (e1 : crB ys (i : Int) c h (l : Int) = true) (e2 : crB ys (i : Int) c h ((l + 1 : Nat) : Int) = true) : crHi zs ys i c h l ≤ 28540 * zD zs l := by
  have hz := r.z hl
  by_cases he : ys.getD l 0 = ys.getD (l + 1) 0
  · refine cr_same r hl e1 e2 he (by omega) ?_
    have sn := r.sn e1
    have hc := r.c957
    have hs := r.ok.shi l
    have hg := r.ok.sge l
    have m := mul_in (a := c) (b := ys.getD l 0) (A := 957) (B := 1700000) (by omega) hc.2 hg hs
    refine root_far (N := sqN ys (i : Int) c h (l : Int)) rfl (by have := sn.n1; omega) ?_ (by omega) sn.l1
    have hlt := crB_lt e1
    rw [sqN_eq, ← sq_dif]
    have m3 := Int.mul_le_mul (show 1 ≤ h * ys.getD i 0 - c * ys.getD l 0 by omega) (Int.le_refl (h * ys.getD i 0 + c * ys.getD l 0)) (by omega) (by omega)
    omega
  · have := cr_diff r hl e1 e2 he
    omega
/-- two rays of different cosines do not both graze a knot -/
theorem graze {zs ys : List Int} {i : Nat} {c s h x y z : Int} (r : RyOk zs ys i c s h) (q : RyOk zs ys i x y z) {l : Nat} (hl : l < zs.length) (e1 : crB ys (i : Int) c h (l : Int) = true) (e2 : crB ys (i : Int) x z (l : Int) = true) (hlt : z * c < h * x) :
    c * ys.getD l 0 ≤ 780 * sLo ys i c h l := by
  have sn := r.sn e1
  have hc := r.c957
  have hx := q.c957
  have hs := r.ok.shi l
  have hg := r.ok.slo l hl
  have h0 := r.ok.slo i r.hi
  have m := mul_in (a := c) (b := ys.getD l 0) (A := 957) (B := 1700000) (by omega) hc.2 (by omega) hs
  refine root_near (N := sqN ys (i : Int) c h (l : Int)) rfl (by have := sn.n1; omega) ?_ (by omega) sn.l1
  have l1 := crB_lt e1
  have l2 := crB_lt e2
  obtain ⟨v, hv⟩ : ∃ v, ys.getD l 0 = v := ⟨_, rfl⟩
  obtain ⟨a, ha⟩ : ∃ a, ys.getD i 0 = a := ⟨_, rfl⟩
  rw [hv, ha] at l1 l2
  rw [hv] at m hs hg ⊢
  rw [ha] at h0
  have k1 : (h * a - c * v) * x = a * (h * x - z * c) + (z * a - x * v) * c := by
    rw [Int.sub_mul, Int.sub_mul, Int.mul_sub, Int.mul_assoc h a x, Int.mul_left_comm h a x, Int.mul_assoc c v x, Int.mul_assoc z a c, Int.mul_left_comm z a c, Int.mul_assoc x v c, Int.mul_comm x (v * c), Int.mul_assoc v c x, Int.mul_left_comm v c x]
    omega
  have k2 := Int.mul_le_mul_of_nonneg_left (show 1 ≤ h * x - z * c by omega) (show 0 ≤ a by omega)
  have k3 := Int.mul_nonneg (show 0 ≤ z * a - x * v by omega) (show 0 ≤ c by omega)
  have k4 := Int.mul_le_mul_of_nonneg_left hx.2 (show 0 ≤ h * a - c * v by omega)
  have k5 : 1358 ≤ h * a - c * v := by omega
  rw [sqN_eq, ← sq_dif, hv, ha]
  have m3 := Int.mul_le_mul k5 (Int.le_refl (h * a + c * v)) (by omega) (by omega)
  omega
theorem cr_two {zs ys : List Int} {i : Nat} {c s h x y z : Int} (r : RyOk zs ys i c s h) (q : RyOk zs ys i x y z) {l : Nat} (hl : l + 1 < zs.length) (e1 : crB ys (i : Int) c h (l : Int) = true) (e2 : crB ys (i : Int) c h ((l + 1 : Nat) : Int) = true)
    (g1 : crB ys (i : Int) x z (l : Int) = true) (g2 : crB ys (i : Int) x z ((l + 1 : Nat) : Int) = true) (hne : z * c ≠ h * x) : crHi zs ys i c h l + crHi zs ys i x z l ≤ 29411 * zD zs l := by
  have hz := r.z hl
  by_cases he : ys.getD l 0 = ys.getD (l + 1) 0
  · have o1 := cr_one r hl e1 e2
    have o2 := cr_one q hl g1 g2
    rcases Int.lt_or_gt_of_ne hne with lt | lt
    · have := cr_same r hl e1 e2 he (by omega) (graze r q (by omega) e1 g1 lt)
      omega
    · have := cr_same q hl g1 g2 he (by omega) (graze q r (by omega) g1 e1 (by rw [Int.mul_comm h x, Int.mul_comm z c] at lt; rw [Int.mul_comm h x, Int.mul_comm z c]; exact lt))
      omega
  · have o1 := cr_diff r hl e1 e2 he
    have o2 := cr_diff q hl g1 g2 he
    omega
/-- a turn -/
theorem tn_up {zs ys : List Int} {i : Nat} {c s h : Int} (r : RyOk zs ys i c s h) {l : Nat} (hl : l + 1 < zs.length) (ab : Bool) (e1 : crB ys (i : Int) c h (anr l ab : Nat) = true) (e2 : crB ys (i : Int) c h (afr l ab : Nat) = false) : tnHi zs ys i c h l ab ≤ 3700 * zD zs l := by
  have hz := r.z hl
  have sn := r.sn e1
  have hc := r.c957
  have l1 := crB_lt e1
  have l2 := crB_ge e2
  have E := sqN_eq ys i (anr l ab) c h
  have hsu := r.ok.shi (anr l ab)
  have hsv := r.ok.shi (afr l ab)
  have hgu := r.ok.sge (anr l ab)
  have q1 := sn.l1
  have q2 := sn.h2
  have q3 := sn.lo
  have q4 := sn.n1
  have A := r.A
  have e0 : riS ys c (anr l ab) (afr l ab) = c * ys.getD (afr l ab) 0 - c * ys.getD (anr l ab) 0 := Int.mul_sub _ _ _
  have m1 := Int.mul_le_mul l2 l2 A.1 (by omega)
  have e3 := sq_dif (c * ys.getD (afr l ab) 0) (c * ys.getD (anr l ab) 0)
  obtain ⟨w, hw⟩ : ∃ w, riS ys c (anr l ab) (afr l ab) = w := ⟨_, rfl⟩
  obtain ⟨L, hL⟩ : ∃ L, sLo ys i c h (anr l ab) = L := ⟨_, rfl⟩
  have wpos : 0 < w := by omega
  have uv : ys.getD (anr l ab) 0 < ys.getD (afr l ab) 0 := by
    rcases Int.lt_or_le (ys.getD (anr l ab) 0) (ys.getD (afr l ab) 0) with g | g
    · exact g
    · have := Int.mul_le_mul_of_nonneg_left g (show 0 ≤ c by omega)
      omega
  have m4 := Int.mul_le_mul_of_nonneg_left (show 1 ≤ ys.getD (afr l ab) 0 - ys.getD (anr l ab) 0 by omega) (show 0 ≤ c by omega)
  have hcw : c ≤ w := by rw [← hw]; unfold riS; omega
  have m5 := Int.mul_le_mul_of_nonneg_left (show ys.getD (afr l ab) 0 + ys.getD (anr l ab) 0 ≤ 3400000 by omega) (show 0 ≤ c by omega)
  rw [Int.mul_add] at m5
  have m6 := Int.mul_le_mul_of_nonneg_left (show c * ys.getD (afr l ab) 0 + c * ys.getD (anr l ab) 0 ≤ w * 3400000 by omega) (show 0 ≤ w by omega)
  rw [← e0, hw] at e3
  have key : L ≤ 1849 * w - 1 := by
    rcases Int.lt_or_le L (1849 * w) with g | g
    · omega
    · have m7 := Int.mul_le_mul g g (by omega) (by omega)
      have e5 : 1849 * w * (1849 * w) = w * w * 3418801 := by rw [Int.mul_assoc 1849 w, Int.mul_left_comm w 1849 w, ← Int.mul_assoc 1849 1849, Int.mul_comm _ (w * w)]; rfl
      have e6 : w * (w * 3400000) = w * w * 3400000 := (Int.mul_assoc _ _ _).symm
      have m8 := Int.mul_le_mul wpos wpos (by omega) (by omega)
      rw [hL] at q3
      rw [e5] at m7
      rw [e6] at m6
      omega
  unfold tnHi
  rw [hw]
  refine (cdiv_le_q wpos).2 ?_
  have m9 := Int.mul_le_mul_of_nonneg_left (show sHi ys i c h (anr l ab) ≤ 1850 * w by omega) (show 0 ≤ 2 * zD zs l by omega)
  have e7 : 3700 * zD zs l * w = 2 * zD zs l * (1850 * w) := by rw [Int.mul_assoc 2, Int.mul_left_comm (zD zs l) 1850 w, ← Int.mul_assoc 2 1850, Int.mul_assoc]; rfl
  omega
/-- a layer at the source -/
theorem cr_adj {zs ys : List Int} {i : Nat} {c s h : Int} (r : RyOk zs ys i c s h) {l : Nat} (hl : l + 1 < zs.length) (e1 : crB ys (i : Int) c h (l : Int) = true) (e2 : crB ys (i : Int) c h ((l + 1 : Nat) : Int) = true) (hi : l = i ∨ l + 1 = i) : crHi zs ys i c h l ≤ 3700 * zD zs l := by
  refine cr_up r hl e1 e2 (by omega) ?_
  have hc := r.c957
  have g1 := (r.sn e1).l1
  have g2 := (r.sn e2).l1
  have h0 := r.ok.slo i r.hi
  have hu := r.ok.shi l
  have hv := r.ok.shi (l + 1)
  have hg := r.ok.sge l
  have hg' := r.ok.sge (l + 1)
  have k : ys.getD i 0 ≤ rt (sqN ys (i : Int) c h (i : Int)) := by
    have e : sqN ys (i : Int) c h (i : Int) = (s * s) * (ys.getD i 0 * ys.getD i 0) := by
      rw [sqN_eq, show s * s = h * h - c * c by have := r.od.py; omega, Int.sub_mul]
      rw [Int.mul_assoc h, Int.mul_left_comm (ys.getD i 0) h, ← Int.mul_assoc h h, Int.mul_assoc c, Int.mul_left_comm (ys.getD i 0) c, ← Int.mul_assoc c c]
    have s1 : 1 ≤ s * s := by
      have := Int.natAbs_pos.2 r.od.s0
      rw [sq_nat s]
      have := Nat.mul_le_mul (show 1 ≤ s.natAbs by omega) (show 1 ≤ s.natAbs by omega)
      omega
    have m := Int.mul_le_mul_of_nonneg_right s1 (Int.mul_nonneg (show 0 ≤ ys.getD i 0 by omega) (show 0 ≤ ys.getD i 0 by omega))
    have m0 := Int.mul_nonneg (show 0 ≤ ys.getD i 0 by omega) (show 0 ≤ ys.getD i 0 by omega)
    exact root_ge (by omega) (by omega) (by omega)
  have m := mul_in (a := c) (b := ys.getD l 0 + ys.getD (l + 1) 0) (A := 957) (B := 3400000) (by omega) hc.2 (by omega) (by omega)
  rcases hi with e | e
  · subst e
    have : ys.getD l 0 ≤ sLo ys l c h l := k
    omega
  · rw [← e] at k h0
    have : ys.getD (l + 1) 0 ≤ sLo ys i c h (l + 1) := by rw [← e]; exact k
    omega
end Go.Proofs.Ytgecbfbmmbfnmaa
