import Derived.Test.YtgecbfbmmbfnmaaGreatArcR
namespace Go.Proofs.YtgecbfbmmbfnmaaGreat
section
/- A way to and fro on one side of a source: what it can add up to. -/
set_option linter.unusedVariables false
/-- one step of a way: how far out, outwards or not, before and behind; what it adds at most -/
def StpOk (wt : Int → Int) (q : Int) (o : Bool) (q' : Int) (o' : Bool) (d : Int) : Prop :=
  (o = true ∧ o' = true ∧ q' = q + 1 ∧ d ≤ wt q) ∨ (o = false ∧ o' = false ∧ q' = q - 1 ∧ d ≤ wt (q - 1)) ∨ (o = true ∧ o' = false ∧ q' = q ∧ d ≤ wt q) ∨ (o = false ∧ o' = true ∧ q' = q ∧ d ≤ 0 ∧ q ≤ 0)
/-- weights, and what they add up to ahead of a place -/
structure Wts (wt D : Int → Int) (U : Int) : Prop where
  w0 : ∀ q, 0 ≤ wt q
  wz : ∀ q, q ≤ 0 → wt q = 0
  dz : ∀ q, q ≤ 1 → D q = 0
  ds : ∀ q, 1 ≤ q → D (q + 1) = D q + wt q
  d0 : ∀ q, 0 ≤ D q
  up : ∀ q, D q + wt q ≤ U
def pot (D : Int → Int) (U q : Int) (o : Bool) : Int :=
  if 1 ≤ q then (if o then 3 * D q - U * q else (if U * (2 - q) ≤ 3 * U - 3 * D q - U * q then 3 * U - 3 * D q - U * q else U * (2 - q))) else (if o then 0 else U)
theorem Wts.u0 {wt D : Int → Int} {U : Int} (h : Wts wt D U) : 0 ≤ U := by
  have h1 := h.up 0
  have h2 := h.d0 0
  have h3 := h.w0 0
  omega
theorem pot_o1 {D : Int → Int} {U q : Int} (hq : 1 ≤ q) : pot D U q true = 3 * D q - U * q := by unfold pot; rw [if_pos hq, if_pos rfl]
theorem pot_i1 {D : Int → Int} {U q : Int} (hq : 1 ≤ q) : pot D U q false = if U * (2 - q) ≤ 3 * U - 3 * D q - U * q then 3 * U - 3 * D q - U * q else U * (2 - q) := by unfold pot; rw [if_pos hq, if_neg (by simp)]
theorem pot_o0 {D : Int → Int} {U q : Int} (hq : ¬ 1 ≤ q) : pot D U q true = 0 := by unfold pot; rw [if_neg hq, if_pos rfl]
theorem pot_i0 {D : Int → Int} {U q : Int} (hq : ¬ 1 ≤ q) : pot D U q false = U := by unfold pot; rw [if_neg hq, if_neg (by simp)]
theorem pot_le {wt D : Int → Int} {U : Int} (h : Wts wt D U) (q : Int) (o : Bool) : pot D U q o ≤ 2 * U := by
  have h0 := h.u0
  have h1 := h.up q
  have h2 := h.d0 q
  have h3 := h.w0 q
  have e1 : U * (2 - q) = U * 2 - U * q := Int.mul_sub _ _ _
  by_cases hq : 1 ≤ q
  · have g1 := Int.mul_le_mul_of_nonneg_left hq h0
    rw [Int.mul_one] at g1
    cases o
    · rw [pot_i1 hq]
      split <;> omega
    · rw [pot_o1 hq]
      by_cases h5 : q = 1
      · have := h.dz q (by omega)
        omega
      · have g2 := Int.mul_le_mul_of_nonneg_left (show 2 ≤ q by omega) h0
        omega
  · cases o
    · rw [pot_i0 hq]; omega
    · rw [pot_o0 hq]; omega
theorem pot_step {wt D : Int → Int} {U q q' d : Int} {o o' : Bool} (h : Wts wt D U) (s : StpOk wt q o q' o' d) : 3 * d + pot D U q o ≤ U + pot D U q' o' := by
  have h0 := h.u0
  rcases s with ⟨rfl, rfl, rfl, hd⟩ | ⟨rfl, rfl, rfl, hd⟩ | ⟨rfl, rfl, rfl, hd⟩ | ⟨rfl, rfl, rfl, hd, hq⟩
  · have e1 : U * (q + 1) = U * q + U := by rw [Int.mul_add, Int.mul_one]
    by_cases hq : 1 ≤ q
    · have := h.ds q hq
      rw [pot_o1 hq, pot_o1 (show 1 ≤ q + 1 by omega)]
      omega
    · have h1 := h.wz q (by omega)
      rw [pot_o0 hq]
      by_cases hq' : 1 ≤ q + 1
      · have h2 := h.dz (q + 1) (by omega)
        have h3 : q + 1 = 1 := by omega
        rw [pot_o1 hq', h2, h3, Int.mul_one]
        omega
      · rw [pot_o0 hq']
        omega
  · have e0 : U * (q - 1) = U * q - U := by rw [Int.mul_sub, Int.mul_one]
    have e1 : U * (2 - q) = U * 2 - U * q := Int.mul_sub _ _ _
    have e2 : U * (2 - (q - 1)) = U * 3 - U * q := by rw [show 2 - (q - 1) = 3 - q by omega, Int.mul_sub]
    by_cases hq : 1 ≤ q - 1
    · have h1 := h.ds (q - 1) hq
      rw [show q - 1 + 1 = q by omega] at h1
      have h2 := h.up (q - 1)
      have h3 := h.d0 (q - 1)
      have h4 := h.w0 (q - 1)
      rw [pot_i1 (show 1 ≤ q by omega), pot_i1 hq]
      split <;> split <;> omega
    · have h1 := h.wz (q - 1) (by omega)
      rw [pot_i0 hq]
      by_cases hq' : 1 ≤ q
      · have h2 := h.dz q (by omega)
        have h3 : q = 1 := by omega
        have e4 : U * q = U := by rw [h3, Int.mul_one]
        rw [pot_i1 hq', h2]
        split <;> omega
      · rw [pot_i0 hq']
        omega
  · have e1 : U * (2 - q') = U * 2 - U * q' := Int.mul_sub _ _ _
    have h1 := h.up q'
    have h2 := h.d0 q'
    have h3 := h.w0 q'
    by_cases hq : 1 ≤ q'
    · rw [pot_o1 hq, pot_i1 hq]
      split <;> omega
    · have h4 := h.wz q' (by omega)
      rw [pot_o0 hq, pot_i0 hq]
      omega
  · rw [pot_i0 (by omega), pot_o0 (by omega)]
    omega
/-- the sum of the first numbers -/
def sumTo (f : Nat → Int) : Nat → Int
  | 0 => 0
  | n + 1 => sumTo f n + f n
theorem sumTo_nn {f : Nat → Int} (h : ∀ j, 0 ≤ f j) : ∀ n, 0 ≤ sumTo f n
  | 0 => Int.le_refl _
  | n + 1 => by
    have := sumTo_nn h n
    have := h n
    show 0 ≤ sumTo f n + f n
    omega
theorem sumTo_up {f : Nat → Int} {M : Nat} (h : ∀ j, 0 ≤ f j) (hz : ∀ j, M ≤ j → f j = 0) : ∀ n, sumTo f n ≤ sumTo f M := by
  have h1 : ∀ k n, sumTo f n ≤ sumTo f (n + k) := by
    intro k
    induction k with
    | zero => intro n; exact Int.le_refl _
    | succ k ih =>
      intro n
      have h2 := ih n
      have h3 := h (n + k)
      show sumTo f n ≤ sumTo f (n + k) + f (n + k)
      omega
  have h2 : ∀ k, sumTo f (M + k) = sumTo f M := by
    intro k
    induction k with
    | zero => rfl
    | succ k ih =>
      have h3 := hz (M + k) (by omega)
      show sumTo f (M + k) + f (M + k) = _
      omega
  intro n
  rcases Nat.le_total n M with l | l
  · have := h1 (M - n) n
    rwa [show n + (M - n) = M by omega] at this
  · have := h2 (n - M)
    rw [show M + (n - M) = n by omega] at this
    omega
theorem Wts.of {f : Nat → Int} {M : Nat} (h0 : f 0 = 0) (h : ∀ j, 0 ≤ f j) (hz : ∀ j, M ≤ j → f j = 0) : Wts (fun q => f q.toNat) (fun q => sumTo f q.toNat) (sumTo f M) := by
  refine ⟨fun q => h _, fun q hq => ?_, fun q hq => ?_, fun q hq => ?_, fun q => sumTo_nn h _, fun q => sumTo_up h hz (q.toNat + 1)⟩
  · show f q.toNat = 0
    rw [show q.toNat = 0 by omega, h0]
  · show sumTo f q.toNat = 0
    rcases (by omega : q.toNat = 0 ∨ q.toNat = 1) with e | e
    · rw [e]; rfl
    · rw [e]; show 0 + f 0 = 0; omega
  · show sumTo f (q + 1).toNat = sumTo f q.toNat + f q.toNat
    rw [show (q + 1).toNat = q.toNat + 1 by omega]; rfl
end
section
/- What an event can add to the range of a ray, by the thickness of its layer. -/
open Num
set_option linter.unusedVariables false
/-- no cosine of a valid direction is greater than 957 -/
def cosK : Bool := (List.range 42).all fun a => (List.range 42).all fun b => if b < a then true else (List.range 290).all fun s => !((958 + a) * (958 + a) + (s + 1) * (s + 1) == (959 + b) * (959 + b)) || !(Nat.gcd (Nat.gcd (958 + a) (s + 1)) (959 + b) == 1)
set_option maxRecDepth 100000 in
theorem cosK_t : cosK = true := by kernel_rfl
theorem sq_nat (a : Int) : a * a = ((a.natAbs * a.natAbs : Nat) : Int) := by rw [Int.natCast_mul]; exact (Int.natAbs_mul_self' a).symm
theorem cos_le {c s h : Int} (o : DirOk c s h) : c ≤ 957 := by
  rcases Int.lt_or_le 957 c with l | l
  rotate_left
  · exact l
  have hc := o.c1
  have h2 := o.h2
  have hp := o.py
  have s0 := o.s0
  have c2 : c < h := by
    rcases Int.lt_or_eq_of_le o.c2 with l | l
    · exact l
    · rw [l] at hp
      have : s * s = 0 := by omega
      rcases Int.mul_eq_zero.1 this with e | e <;> exact absurd e s0
  obtain ⟨a, ha⟩ : ∃ a : Nat, c = ((958 + a : Nat) : Int) := ⟨(c - 958).toNat, by omega⟩
  obtain ⟨b, hb⟩ : ∃ b : Nat, h = ((959 + b : Nat) : Int) := ⟨(h - 959).toNat, by omega⟩
  obtain ⟨t, ht⟩ : ∃ t : Nat, s.natAbs = t + 1 := ⟨s.natAbs - 1, by omega⟩
  have hss := sq_nat s
  rw [ht] at hss
  have hN : (958 + a) * (958 + a) + (t + 1) * (t + 1) = (959 + b) * (959 + b) := by
    rw [hss, ha, hb] at hp
    have hp2 : (((958 + a) * (958 + a) + (t + 1) * (t + 1) : Nat) : Int) = (((959 + b) * (959 + b) : Nat) : Int) := by rw [Int.natCast_add, Int.natCast_mul (958 + a), Int.natCast_mul (959 + b)]; exact hp
    exact Int.ofNat.inj hp2
  have b1 : a < 42 := by omega
  have b2 : b < 42 := by omega
  have b3 : ¬ b < a := by omega
  have b4 : t < 290 := by
    rcases Nat.lt_or_ge t 290 with l | l
    · exact l
    · have m1 := Nat.mul_le_mul (show 291 ≤ t + 1 by omega) (show 291 ≤ t + 1 by omega)
      have m2 := Nat.mul_le_mul (show 958 ≤ 958 + a by omega) (show 958 ≤ 958 + a by omega)
      have m3 := Nat.mul_le_mul (show 959 + b ≤ 1000 by omega) (show 959 + b ≤ 1000 by omega)
      omega
  have hg : Nat.gcd (Nat.gcd (958 + a) (t + 1)) (959 + b) = 1 := by
    have := o.gg
    unfold g3 gc Int.gcd at this
    rw [ha, hb, ht, Int.natAbs_natCast, Int.natAbs_natCast, Int.natAbs_natCast] at this
    exact Int.ofNat.inj this
  have k := cosK_t
  unfold cosK at k
  have k1 := List.all_eq_true.1 (List.all_eq_true.1 k a (List.mem_range.2 b1)) b (List.mem_range.2 b2)
  rw [if_neg b3] at k1
  have k2 := List.all_eq_true.1 k1 t (List.mem_range.2 b4)
  rw [hN, hg] at k2
  simp at k2
theorem root_far {N Y t : Int} (ht : rt N = t) (h0 : 0 ≤ N) (h1 : 2 * Y + 1 ≤ N) (h2 : Y ≤ 1626900000) (h3 : 1 ≤ t) : Y ≤ 28540 * t := by
  have h4 := (rt_sq N h0).2
  rw [ht] at h4
  rcases Int.lt_or_le t 57005 with l | l
  · have e : (t + 1) * (t + 1) = t * t + 2 * t + 1 := by rw [Int.add_mul, Int.mul_add]; omega
    have m := Int.mul_le_mul_of_nonneg_right (show t ≤ 57004 by omega) (show 0 ≤ t by omega)
    omega
  · omega
theorem root_near {N Y t : Int} (ht : rt N = t) (h0 : 0 ≤ N) (h1 : 2716 * Y ≤ N) (h2 : Y ≤ 1626900000) (h3 : 1 ≤ t) : Y ≤ 780 * t := by
  have h4 := (rt_sq N h0).2
  rw [ht] at h4
  rcases Int.lt_or_le t 2085770 with l | l
  · have e : (t + 1) * (t + 1) = t * t + 2 * t + 1 := by rw [Int.add_mul, Int.mul_add]; omega
    have m := Int.mul_le_mul_of_nonneg_right (show t ≤ 2085769 by omega) (show 0 ≤ t by omega)
    omega
  · omega
theorem root_ge {N k : Int} (hk : 0 ≤ k) (h0 : 0 ≤ N) (h : k * k ≤ N) : k ≤ rt N := by
  have h4 := (rt_sq N h0).2
  have h5 := rt_nonneg N
  rcases Int.lt_or_le (rt N) k with l | l
  · have m := Int.mul_le_mul (show rt N + 1 ≤ k by omega) (show rt N + 1 ≤ k by omega) (by omega) hk
    omega
  · exact l
/-- a bound of a crossing -/
theorem cr_up {zs ys : List Int} {i : Nat} {c s h : Int} (r : RyOk zs ys i c s h) {l : Nat} (hl : l + 1 < zs.length) (e1 : crB ys (i : Int) c h (l : Int) = true) (e2 : crB ys (i : Int) c h ((l + 1 : Nat) : Int) = true) {G : Int} (hG : 0 ≤ G)
    (hb : c * (ys.getD l 0 + ys.getD (l + 1) 0) ≤ G * (sLo ys i c h l + sLo ys i c h (l + 1))) : crHi zs ys i c h l ≤ G * zD zs l := by
  have g1 := (r.sn e1).l1
  have g2 := (r.sn e2).l1
  have hz := r.z hl
  unfold crHi
  refine (cdiv_le_q (by omega)).2 ?_
  have m := Int.mul_le_mul_of_nonneg_left hb (show 0 ≤ zD zs l by omega)
  unfold crN
  rw [Int.mul_assoc (zD zs l), show G * zD zs l * (sLo ys i c h l + sLo ys i c h (l + 1)) = zD zs l * (G * (sLo ys i c h l + sLo ys i c h (l + 1))) by rw [Int.mul_comm G, Int.mul_assoc]]
  exact m
theorem RyOk.c957 {zs ys : List Int} {i : Nat} {c s h : Int} (r : RyOk zs ys i c s h) : 1 ≤ c ∧ c ≤ 957 := ⟨r.od.c1, cos_le r.od⟩
/-- where the speeds differ -/
theorem cr_diff {zs ys : List Int} {i : Nat} {c s h : Int} (r : RyOk zs ys i c s h) {l : Nat} (hl : l + 1 < zs.length) (e1 : crB ys (i : Int) c h (l : Int) = true) (e2 : crB ys (i : Int) c h ((l + 1 : Nat) : Int) = true) (hne : ys.getD l 0 ≠ ys.getD (l + 1) 0) : crHi zs ys i c h l ≤ 3700 * zD zs l := by
  have hc := r.c957
  have l1 := crB_lt e1
  have l2 := crB_lt e2
  have v1 := r.ok.slo l (by omega)
  have v2 := r.ok.slo (l + 1) hl
  have w1 := r.ok.shi l
  have w2 := r.ok.shi (l + 1)
  have s1 := r.sn e1
  have s2 := r.sn e2
  have q1 := s1.l1
  have q2 := s2.l1
  have E1 := sqN_eq ys i l c h
  have E2 := sqN_eq ys i (l + 1) c h
  obtain ⟨X, hX⟩ : ∃ X, h * ys.getD i 0 = X := ⟨_, rfl⟩
  obtain ⟨u, hu⟩ : ∃ u, ys.getD l 0 = u := ⟨_, rfl⟩
  obtain ⟨v, hv⟩ : ∃ v, ys.getD (l + 1) 0 = v := ⟨_, rfl⟩
  rw [hX, hu] at l1 E1
  rw [hX, hv] at l2 E2
  rw [hu] at v1 w1
  rw [hv] at v2 w2
  rw [hu, hv] at hne
  have key : ∀ a b : Int, 1300000 ≤ a → a < b → c * b < X → 0 ≤ X * X - (c * a) * (c * a) → 1612 * c ≤ rt (X * X - (c * a) * (c * a)) := by
    intro a b ha hab hbX h0
    refine root_ge (by omega) h0 ?_
    have m1 : (c * b) * (c * b) ≤ X * X := Int.mul_le_mul (by omega) (by omega) (Int.mul_nonneg (by omega) (by omega)) (by have := Int.mul_nonneg (show 0 ≤ c by omega) (show 0 ≤ b by omega); omega)
    have e : (c * b) * (c * b) - (c * a) * (c * a) = (c * c) * ((b - a) * (b + a)) := by
      rw [sq_dif b a, Int.mul_sub, Int.mul_assoc c b, Int.mul_assoc c a, ← Int.mul_assoc b c b, ← Int.mul_assoc a c a, Int.mul_comm b c, Int.mul_comm a c, Int.mul_assoc c b b, Int.mul_assoc c a a, ← Int.mul_assoc c c, ← Int.mul_assoc c c]
    have m2 := Int.mul_le_mul (show 1 ≤ b - a by omega) (show 2600000 ≤ b + a by omega) (by omega) (by omega)
    have m3 := Int.mul_le_mul_of_nonneg_left m2 (Int.mul_nonneg (show 0 ≤ c by omega) (show 0 ≤ c by omega))
    have e2 : 1612 * c * (1612 * c) = c * c * 2598544 := by rw [Int.mul_assoc 1612 c, Int.mul_left_comm c 1612 c, ← Int.mul_assoc 1612 1612, Int.mul_comm _ (c * c)]; rfl
    have m4 := Int.mul_nonneg (show 0 ≤ c by omega) (show 0 ≤ c by omega)
    rw [e2]
    have m5 := Int.mul_le_mul_of_nonneg_left (show (2598544 : Int) ≤ 2600000 by omega) m4
    omega
  refine cr_up r hl e1 e2 (by omega) ?_
  rw [hu, hv]
  have m := Int.mul_le_mul_of_nonneg_left (show u + v ≤ 3400000 by omega) (show 0 ≤ c by omega)
  have n1 := s1.n1
  have n2 := s2.n1
  rcases Int.lt_or_gt_of_ne hne with lt | lt
  · have k := key u v v1 lt l2 (by omega)
    rw [← E1] at k
    have : 1612 * c ≤ sLo ys i c h l := k
    omega
  · have k := key v u v2 lt l1 (by omega)
    rw [← E2] at k
    have : 1612 * c ≤ sLo ys i c h (l + 1) := k
    omega
/-- where the speeds are the same -/
theorem cr_same {zs ys : List Int} {i : Nat} {c s h : Int} (r : RyOk zs ys i c s h) {l : Nat} (hl : l + 1 < zs.length) (e1 : crB ys (i : Int) c h (l : Int) = true) (e2 : crB ys (i : Int) c h ((l + 1 : Nat) : Int) = true) (he : ys.getD l 0 = ys.getD (l + 1) 0) {G : Int} (hG : 0 ≤ G)
    (hb : c * ys.getD l 0 ≤ G * sLo ys i c h l) : crHi zs ys i c h l ≤ G * zD zs l := by
  refine cr_up r hl e1 e2 hG ?_
  have e : sLo ys i c h (l + 1) = sLo ys i c h l := by unfold sLo; rw [sqN_eq, sqN_eq, he]
  rw [← he, e, Int.mul_add, Int.mul_add]
  omega
theorem cr_one {zs ys : List Int} {i : Nat} {c s h : Int} (r : RyOk zs ys i c s h) {l : Nat} (hl : l + 1 < zs.length) (e1 : crB ys (i : Int) c h (l : Int) = true) (e2 : crB ys (i : Int) c h ((l + 1 : Nat) : Int) = true) : crHi zs ys i c h l ≤ 28540 * zD zs l := by
  have hz := r.z hl
  by_cases he : ys.getD l 0 = ys.getD (l + 1) 0
  · refine cr_same r hl e1 e2 he (by omega) ?_
    have sn := r.sn e1
    have hc := r.c957
    have hs := r.ok.shi l
    have hg := r.ok.sge l
    have m := mul_in (a := c) (b := ys.getD l 0) (A := 957) (B := 1700000) (by omega) hc.2 hg hs
    refine root_far (N := sqN ys (i : Int) c h (l : Int)) rfl (by have := sn.n1; omega) ?_ (by omega) sn.l1
    have hlt := crB_lt e1
    rw [sqN_eq, ← sq_dif]
    have m3 := Int.mul_le_mul (show 1 ≤ h * ys.getD i 0 - c * ys.getD l 0 by omega) (Int.le_refl (h * ys.getD i 0 + c * ys.getD l 0)) (by omega) (by omega)
    omega
  · have := cr_diff r hl e1 e2 he
    omega
/-- two rays of different cosines do not both graze a knot -/
theorem graze {zs ys : List Int} {i : Nat} {c s h x y z : Int} (r : RyOk zs ys i c s h) (q : RyOk zs ys i x y z) {l : Nat} (hl : l < zs.length) (e1 : crB ys (i : Int) c h (l : Int) = true) (e2 : crB ys (i : Int) x z (l : Int) = true) (hlt : z * c < h * x) :
    c * ys.getD l 0 ≤ 780 * sLo ys i c h l := by
  have sn := r.sn e1
  have hc := r.c957
  have hx := q.c957
  have hs := r.ok.shi l
  have hg := r.ok.slo l hl
  have h0 := r.ok.slo i r.hi
  have m := mul_in (a := c) (b := ys.getD l 0) (A := 957) (B := 1700000) (by omega) hc.2 (by omega) hs
  refine root_near (N := sqN ys (i : Int) c h (l : Int)) rfl (by have := sn.n1; omega) ?_ (by omega) sn.l1
  have l1 := crB_lt e1
  have l2 := crB_lt e2
  obtain ⟨v, hv⟩ : ∃ v, ys.getD l 0 = v := ⟨_, rfl⟩
  obtain ⟨a, ha⟩ : ∃ a, ys.getD i 0 = a := ⟨_, rfl⟩
  rw [hv, ha] at l1 l2
  rw [hv] at m hs hg ⊢
  rw [ha] at h0
  have k1 : (h * a - c * v) * x = a * (h * x - z * c) + (z * a - x * v) * c := by
    rw [Int.sub_mul, Int.sub_mul, Int.mul_sub, Int.mul_assoc h a x, Int.mul_left_comm h a x, Int.mul_assoc c v x, Int.mul_assoc z a c, Int.mul_left_comm z a c, Int.mul_assoc x v c, Int.mul_comm x (v * c), Int.mul_assoc v c x, Int.mul_left_comm v c x]
    omega
  have k2 := Int.mul_le_mul_of_nonneg_left (show 1 ≤ h * x - z * c by omega) (show 0 ≤ a by omega)
  have k3 := Int.mul_nonneg (show 0 ≤ z * a - x * v by omega) (show 0 ≤ c by omega)
  have k4 := Int.mul_le_mul_of_nonneg_left hx.2 (show 0 ≤ h * a - c * v by omega)
  have k5 : 1358 ≤ h * a - c * v := by omega
  rw [sqN_eq, ← sq_dif, hv, ha]
  have m3 := Int.mul_le_mul k5 (Int.le_refl (h * a + c * v)) (by omega) (by omega)
  omega
theorem cr_two {zs ys : List Int} {i : Nat} {c s h x y z : Int} (r : RyOk zs ys i c s h) (q : RyOk zs ys i x y z) {l : Nat} (hl : l + 1 < zs.length) (e1 : crB ys (i : Int) c h (l : Int) = true) (e2 : crB ys (i : Int) c h ((l + 1 : Nat) : Int) = true)
    (g1 : crB ys (i : Int) x z (l : Int) = true) (g2 : crB ys (i : Int) x z ((l + 1 : Nat) : Int) = true) (hne : z * c ≠ h * x) : crHi zs ys i c h l + crHi zs ys i x z l ≤ 29411 * zD zs l := by
  have hz := r.z hl
  by_cases he : ys.getD l 0 = ys.getD (l + 1) 0
  · have o1 := cr_one r hl e1 e2
    have o2 := cr_one q hl g1 g2
    rcases Int.lt_or_gt_of_ne hne with lt | lt
    · have := cr_same r hl e1 e2 he (by omega) (graze r q (by omega) e1 g1 lt)
      omega
    · have := cr_same q hl g1 g2 he (by omega) (graze q r (by omega) g1 e1 (by rw [Int.mul_comm h x, Int.mul_comm z c] at lt; rw [Int.mul_comm h x, Int.mul_comm z c]; exact lt))
      omega
  · have o1 := cr_diff r hl e1 e2 he
    have o2 := cr_diff q hl g1 g2 he
    omega
/-- a turn -/
theorem tn_up {zs ys : List Int} {i : Nat} {c s h : Int} (r : RyOk zs ys i c s h) {l : Nat} (hl : l + 1 < zs.length) (ab : Bool) (e1 : crB ys (i : Int) c h (anr l ab : Nat) = true) (e2 : crB ys (i : Int) c h (afr l ab : Nat) = false) : tnHi zs ys i c h l ab ≤ 3700 * zD zs l := by
  have hz := r.z hl
  have sn := r.sn e1
  have hc := r.c957
  have l1 := crB_lt e1
  have l2 := crB_ge e2
  have E := sqN_eq ys i (anr l ab) c h
  have hsu := r.ok.shi (anr l ab)
  have hsv := r.ok.shi (afr l ab)
  have hgu := r.ok.sge (anr l ab)
  have q1 := sn.l1
  have q2 := sn.h2
  have q3 := sn.lo
  have q4 := sn.n1
  have A := r.A
  have e0 : riS ys c (anr l ab) (afr l ab) = c * ys.getD (afr l ab) 0 - c * ys.getD (anr l ab) 0 := Int.mul_sub _ _ _
  have m1 := Int.mul_le_mul l2 l2 A.1 (by omega)
  have e3 := sq_dif (c * ys.getD (afr l ab) 0) (c * ys.getD (anr l ab) 0)
  obtain ⟨w, hw⟩ : ∃ w, riS ys c (anr l ab) (afr l ab) = w := ⟨_, rfl⟩
  obtain ⟨L, hL⟩ : ∃ L, sLo ys i c h (anr l ab) = L := ⟨_, rfl⟩
  have wpos : 0 < w := by omega
  have uv : ys.getD (anr l ab) 0 < ys.getD (afr l ab) 0 := by
    rcases Int.lt_or_le (ys.getD (anr l ab) 0) (ys.getD (afr l ab) 0) with g | g
    · exact g
    · have := Int.mul_le_mul_of_nonneg_left g (show 0 ≤ c by omega)
      omega
  have m4 := Int.mul_le_mul_of_nonneg_left (show 1 ≤ ys.getD (afr l ab) 0 - ys.getD (anr l ab) 0 by omega) (show 0 ≤ c by omega)
  have hcw : c ≤ w := by rw [← hw]; unfold riS; omega
  have m5 := Int.mul_le_mul_of_nonneg_left (show ys.getD (afr l ab) 0 + ys.getD (anr l ab) 0 ≤ 3400000 by omega) (show 0 ≤ c by omega)
  rw [Int.mul_add] at m5
  have m6 := Int.mul_le_mul_of_nonneg_left (show c * ys.getD (afr l ab) 0 + c * ys.getD (anr l ab) 0 ≤ w * 3400000 by omega) (show 0 ≤ w by omega)
  rw [← e0, hw] at e3
  have key : L ≤ 1849 * w - 1 := by
    rcases Int.lt_or_le L (1849 * w) with g | g
    · omega
    · have m7 := Int.mul_le_mul g g (by omega) (by omega)
      have e5 : 1849 * w * (1849 * w) = w * w * 3418801 := by rw [Int.mul_assoc 1849 w, Int.mul_left_comm w 1849 w, ← Int.mul_assoc 1849 1849, Int.mul_comm _ (w * w)]; rfl
      have e6 : w * (w * 3400000) = w * w * 3400000 := (Int.mul_assoc _ _ _).symm
      have m8 := Int.mul_le_mul wpos wpos (by omega) (by omega)
      rw [hL] at q3
      rw [e5] at m7
      rw [e6] at m6
      omega
  unfold tnHi
  rw [hw]
  refine (cdiv_le_q wpos).2 ?_
  have m9 := Int.mul_le_mul_of_nonneg_left (show sHi ys i c h (anr l ab) ≤ 1850 * w by omega) (show 0 ≤ 2 * zD zs l by omega)
  have e7 : 3700 * zD zs l * w = 2 * zD zs l * (1850 * w) := by rw [Int.mul_assoc 2, Int.mul_left_comm (zD zs l) 1850 w, ← Int.mul_assoc 2 1850, Int.mul_assoc]; rfl
  omega
/-- a layer at the source -/
theorem cr_adj {zs ys : List Int} {i : Nat} {c s h : Int} (r : RyOk zs ys i c s h) {l : Nat} (hl : l + 1 < zs.length) (e1 : crB ys (i : Int) c h (l : Int) = true) (e2 : crB ys (i : Int) c h ((l + 1 : Nat) : Int) = true) (hi : l = i ∨ l + 1 = i) : crHi zs ys i c h l ≤ 3700 * zD zs l := by
  refine cr_up r hl e1 e2 (by omega) ?_
  have hc := r.c957
  have g1 := (r.sn e1).l1
  have g2 := (r.sn e2).l1
  have h0 := r.ok.slo i r.hi
  have hu := r.ok.shi l
  have hv := r.ok.shi (l + 1)
  have hg := r.ok.sge l
  have hg' := r.ok.sge (l + 1)
  have k : ys.getD i 0 ≤ rt (sqN ys (i : Int) c h (i : Int)) := by
    have e : sqN ys (i : Int) c h (i : Int) = (s * s) * (ys.getD i 0 * ys.getD i 0) := by
      rw [sqN_eq, show s * s = h * h - c * c by have := r.od.py; omega, Int.sub_mul]
      rw [Int.mul_assoc h, Int.mul_left_comm (ys.getD i 0) h, ← Int.mul_assoc h h, Int.mul_assoc c, Int.mul_left_comm (ys.getD i 0) c, ← Int.mul_assoc c c]
    have s1 : 1 ≤ s * s := by
      have := Int.natAbs_pos.2 r.od.s0
      rw [sq_nat s]
      have := Nat.mul_le_mul (show 1 ≤ s.natAbs by omega) (show 1 ≤ s.natAbs by omega)
      omega
    have m := Int.mul_le_mul_of_nonneg_right s1 (Int.mul_nonneg (show 0 ≤ ys.getD i 0 by omega) (show 0 ≤ ys.getD i 0 by omega))
    have m0 := Int.mul_nonneg (show 0 ≤ ys.getD i 0 by omega) (show 0 ≤ ys.getD i 0 by omega)
    exact root_ge (by omega) (by omega) (by omega)
  have m := mul_in (a := c) (b := ys.getD l 0 + ys.getD (l + 1) 0) (A := 957) (B := 3400000) (by omega) hc.2 (by omega) (by omega)
  rcases hi with e | e
  · subst e
    have : ys.getD l 0 ≤ sLo ys l c h l := k
    omega
  · rw [← e] at k h0
    have : ys.getD (l + 1) 0 ≤ sLo ys i c h (l + 1) := by rw [← e]; exact k
    omega
end
section
/- How far two rays of different cosines go in 100 events: together not farther than the greatest value. -/
open Num
set_option linter.unusedVariables false
/-- the weight of a layer for a ray -/
def wgt (zs ys : List Int) (i : Nat) (c h : Int) (l : Nat) : Int :=
  if l + 1 < zs.length then (if crB ys (i : Int) c h (l : Int) && crB ys (i : Int) c h ((l + 1 : Nat) : Int) then crHi zs ys i c h l else if crB ys (i : Int) c h (l : Int) || crB ys (i : Int) c h ((l + 1 : Nat) : Int) then 3700 * zD zs l else 0) else 0
theorem wgt_nn {zs ys : List Int} {i : Nat} {c s h : Int} (r : RyOk zs ys i c s h) (l : Nat) : 0 ≤ wgt zs ys i c h l := by
  unfold wgt
  split
  · rename_i hl
    have hz := r.z hl
    split
    · rename_i e
      rw [Bool.and_eq_true] at e
      have := cr_bounds r hl e.1 e.2
      omega
    · split <;> omega
  · exact Int.le_refl _
theorem wgt_out {zs ys : List Int} {i : Nat} {c h : Int} {l : Nat} (hl : ¬ l + 1 < zs.length) : wgt zs ys i c h l = 0 := if_neg hl
/-- the depth of a knot, that of the last one behind it -/
def dep (zs : List Int) (k : Nat) : Int := zs.getD (min k (zs.length - 1)) 0
theorem dep_z {zs : List Int} {l : Nat} (hl : l + 1 < zs.length) : dep zs (l + 1) - dep zs l = zD zs l := by
  unfold dep zD
  rw [show min (l + 1) (zs.length - 1) = l + 1 by omega, show min l (zs.length - 1) = l by omega]
theorem dep_mono {zs ys : List Int} {i : Nat} {c s h : Int} (r : RyOk zs ys i c s h) (l : Nat) : dep zs l ≤ dep zs (l + 1) := by
  by_cases hl : l + 1 < zs.length
  · have := dep_z hl
    have := r.z hl
    omega
  · unfold dep
    rw [show min (l + 1) (zs.length - 1) = zs.length - 1 by omega, show min l (zs.length - 1) = zs.length - 1 by omega]
    exact Int.le_refl _
theorem wgt_two {zs ys : List Int} {i : Nat} {c s h x y z : Int} (r : RyOk zs ys i c s h) (q : RyOk zs ys i x y z) (hne : z * c ≠ h * x) (l : Nat) : wgt zs ys i c h l + wgt zs ys i x z l ≤ 29411 * (dep zs (l + 1) - dep zs l) := by
  by_cases hl : l + 1 < zs.length
  · rw [dep_z hl]
    have hz := r.z hl
    -- where just one of the knots can be crossed, the speeds differ
    have dif : ∀ {c s h : Int}, RyOk zs ys i c s h → (crB ys (i : Int) c h (l : Int) && crB ys (i : Int) c h ((l + 1 : Nat) : Int)) = false → (crB ys (i : Int) c h (l : Int) || crB ys (i : Int) c h ((l + 1 : Nat) : Int)) = true → ys.getD l 0 ≠ ys.getD (l + 1) 0 := by
      intro c s h r e1 e2 he
      have : crB ys (i : Int) c h (l : Int) = crB ys (i : Int) c h ((l + 1 : Nat) : Int) := by unfold crB; rw [rA_nat, rB_nat, rB_nat, he]
      rw [this] at e1 e2
      cases hk : crB ys (i : Int) c h ((l + 1 : Nat) : Int) <;> rw [hk] at e1 e2 <;> simp at e1 e2
    unfold wgt
    rw [if_pos hl, if_pos hl]
    cases a1 : (crB ys (i : Int) c h (l : Int) && crB ys (i : Int) c h ((l + 1 : Nat) : Int)) <;> cases b1 : (crB ys (i : Int) x z (l : Int) && crB ys (i : Int) x z ((l + 1 : Nat) : Int))
    · have ff : ¬ (false = true) := by simp
      rw [if_neg ff, if_neg ff]
      split <;> split <;> omega
    · rw [if_neg (by simp), if_pos rfl]
      rw [Bool.and_eq_true] at b1
      cases a2 : (crB ys (i : Int) c h (l : Int) || crB ys (i : Int) c h ((l + 1 : Nat) : Int))
      · rw [if_neg (by simp)]
        have := cr_one q hl b1.1 b1.2
        omega
      · rw [if_pos rfl]
        have := cr_diff q hl b1.1 b1.2 (dif r a1 a2)
        omega
    · rw [if_neg (by simp : ¬ (false = true)), if_pos rfl]
      rw [Bool.and_eq_true] at a1
      cases a2 : (crB ys (i : Int) x z (l : Int) || crB ys (i : Int) x z ((l + 1 : Nat) : Int))
      · rw [if_neg (by simp)]
        have := cr_one r hl a1.1 a1.2
        omega
      · rw [if_pos rfl]
        have := cr_diff r hl a1.1 a1.2 (dif q b1 a2)
        omega
    · rw [if_pos rfl, if_pos rfl]
      rw [Bool.and_eq_true] at a1 b1
      exact cr_two r q hl a1.1 a1.2 b1.1 b1.2 hne
  · rw [wgt_out hl, wgt_out hl]
    have := dep_mono r l
    omega
/-- the weights below the source, above it -/
def fdW (zs ys : List Int) (i : Nat) (c h : Int) (j : Nat) : Int := if j = 0 then 0 else wgt zs ys i c h (i + j)
def fuW (zs ys : List Int) (i : Nat) (c h : Int) (j : Nat) : Int := if j = 0 then 0 else if j + 1 ≤ i then wgt zs ys i c h (i - j - 1) else 0
theorem fd_wts {zs ys : List Int} {i : Nat} {c s h : Int} (r : RyOk zs ys i c s h) : Wts (fun q => fdW zs ys i c h q.toNat) (fun q => sumTo (fdW zs ys i c h) q.toNat) (sumTo (fdW zs ys i c h) zs.length) :=
  Wts.of rfl (fun j => by unfold fdW; split; exact Int.le_refl _; exact wgt_nn r _) (fun j hj => by unfold fdW; split; rfl; exact wgt_out (by omega))
theorem fu_wts {zs ys : List Int} {i : Nat} {c s h : Int} (r : RyOk zs ys i c s h) : Wts (fun q => fuW zs ys i c h q.toNat) (fun q => sumTo (fuW zs ys i c h) q.toNat) (sumTo (fuW zs ys i c h) zs.length) :=
  Wts.of rfl (fun j => by unfold fuW; split; exact Int.le_refl _; split; exact wgt_nn r _; exact Int.le_refl _) (fun j hj => by have := r.hi; unfold fuW; split; rfl; rw [if_neg (by omega)])
/-- what the layers at the source can add at once -/
def adjA (zs : List Int) (i : Nat) : Int := 3700 * (dep zs (i + 1) - dep zs (i - 1))
/-- how far a ray can have come -/
structure WayI (zs ys : List Int) (i : Nat) (c h : Int) (n : Nat) (x : RSt) : Prop where
  ex : ∃ a b e : Int, x.hi = a + b + e ∧ 3 * a ≤ sumTo (fdW zs ys i c h) zs.length * n + pot (fun q => sumTo (fdW zs ys i c h) q.toNat) (sumTo (fdW zs ys i c h) zs.length) ((x.k : Int) - i) x.dn
    ∧ 3 * b ≤ sumTo (fuW zs ys i c h) zs.length * n + pot (fun q => sumTo (fuW zs ys i c h) q.toNat) (sumTo (fuW zs ys i c h) zs.length) ((i : Int) - x.k) (!x.dn) ∧ e ≤ adjA zs i * n
  cr : ∀ j : Nat, (i ≤ j ∧ j ≤ x.k) ∨ (x.k ≤ j ∧ j ≤ i) → crB ys (i : Int) c h (j : Int) = true
theorem adjA_nn {zs ys : List Int} {i : Nat} {c s h : Int} (r : RyOk zs ys i c s h) : 0 ≤ adjA zs i := by
  have h1 := dep_mono r i
  have h2 : dep zs (i - 1) ≤ dep zs i := by
    cases i with
    | zero => exact Int.le_refl _
    | succ i => exact dep_mono r i
  unfold adjA
  omega
theorem adj_z {zs ys : List Int} {i : Nat} {c s h : Int} (r : RyOk zs ys i c s h) {l : Nat} (hl : l + 1 < zs.length) (hi : l = i ∨ l + 1 = i) : 3700 * zD zs l ≤ adjA zs i := by
  have h1 := dep_mono r i
  have h3 := dep_z hl
  unfold adjA
  rcases hi with e | e
  · subst e
    have h2 : dep zs (l - 1) ≤ dep zs l := by
      cases l with
      | zero => exact Int.le_refl _
      | succ l => exact dep_mono r l
    omega
  · rw [show i - 1 = l by omega]
    rw [← e] at h1 ⊢
    omega
theorem WayI.first {zs ys : List Int} {i : Nat} {c s h : Int} (r : RyOk zs ys i c s h) : WayI zs ys i c h 0 (fst0 i s) := by
  have u1 := (fd_wts r).u0
  have u2 := (fu_wts r).u0
  have p : ∀ (D : Int → Int) (U : Int) (o : Bool), 0 ≤ U → 0 ≤ pot D U ((i : Int) - i) o := by
    intro D U o h0
    unfold pot
    rw [if_neg (by omega)]
    cases o <;> simp <;> omega
  refine ⟨⟨0, 0, 0, rfl, ?_, ?_, by simp⟩, fun j hj => ?_⟩
  · have := p (fun q => sumTo (fdW zs ys i c h) q.toNat) _ (fst0 i s).dn u1
    show 3 * 0 ≤ _ * ((0 : Nat) : Int) + pot _ _ ((i : Int) - i) _
    simp only [Int.natCast_zero, Int.mul_zero]
    omega
  · have := p (fun q => sumTo (fuW zs ys i c h) q.toNat) _ (!(fst0 i s).dn) u2
    show 3 * 0 ≤ _ * ((0 : Nat) : Int) + pot _ _ ((i : Int) - i) _
    simp only [Int.natCast_zero, Int.mul_zero]
    omega
  · have hj' : j = i := by
      have e : (fst0 i s).k = i := rfl
      rw [e] at hj
      omega
    rw [hj']
    exact cr_self r
/-- one event more -/
theorem WayI.next {zs ys : List Int} {i : Nat} {c s h : Int} (r : RyOk zs ys i c s h) {n : Nat} {x : RSt} (o : SOk zs ys i c h x) (w : WayI zs ys i c h n x) : WayI zs ys i c h (n + 1) (nxt zs ys i c h x) := by
  obtain ⟨⟨a, b, e, hx, ha, hb, he⟩, hcr⟩ := w
  have hA := adjA_nn r
  have hkl := o.kl
  have hil := r.hi
  have hck := o.cr
  obtain ⟨k, dn, lo, hi⟩ := x
  dsimp only at hx ha hb hkl hck hcr
  -- the step on each side
  suffices H : ∃ (k' : Nat) (dn' : Bool) (da db de : Int), (nxt zs ys i c h ⟨k, dn, lo, hi⟩).k = k' ∧ (nxt zs ys i c h ⟨k, dn, lo, hi⟩).dn = dn' ∧ adHi zs ys i c h k dn = da + db + de ∧ StpOk (fun q => fdW zs ys i c h q.toNat) ((k : Int) - i) dn ((k' : Int) - i) dn' da
      ∧ StpOk (fun q => fuW zs ys i c h q.toNat) ((i : Int) - k) (!dn) ((i : Int) - k') (!dn') db ∧ de ≤ adjA zs i ∧ (∀ j : Nat, (i ≤ j ∧ j ≤ k') ∨ (k' ≤ j ∧ j ≤ i) → crB ys (i : Int) c h (j : Int) = true) by
    obtain ⟨k', dn', da, db, de, e1, e2, e3, s1, s2, s3, s4⟩ := H
    have p1 := pot_step (fd_wts r) s1
    have p2 := pot_step (fu_wts r) s2
    have n1 : ∀ U : Int, U * ((n + 1 : Nat) : Int) = U * n + U := fun U => by rw [Int.natCast_add, Int.mul_add]; simp
    refine ⟨⟨a + da, b + db, e + de, ?_, ?_, ?_, ?_⟩, by rw [e1]; exact s4⟩
    · show hi + adHi zs ys i c h k dn = _
      omega
    · rw [e1, e2, n1]; omega
    · rw [e1, e2, n1]; omega
    · rw [n1]; omega
  have hk : (nxt zs ys i c h ⟨k, dn, lo, hi⟩).k = if evV zs ys i c h k dn = 1 then fk k dn else k := rfl
  have hd : (nxt zs ys i c h ⟨k, dn, lo, hi⟩).dn = if evV zs ys i c h k dn = 1 then dn else !dn := rfl
  have z1 : ∀ q, 0 ≤ fdW zs ys i c h q := fun q => (fd_wts r).w0 q
  have z2 : ∀ q, 0 ≤ fuW zs ys i c h q := fun q => (fu_wts r).w0 q
  cases hin : inP zs.length k dn
  · -- the surface, the bottom
    have he0 : evV zs ys i c h k dn ≠ 1 := by unfold evV; rw [hin]; cases dn <;> simp
    have ha0 : adHi zs ys i c h k dn = 0 := by unfold adHi; rw [hin]; rfl
    rw [if_neg he0] at hk hd
    refine ⟨k, !dn, 0, 0, 0, hk, hd, by omega, ?_, ?_, hA, hcr⟩
    · cases dn
      · have : k = 0 := by simpa [inP] using hin
        exact Or.inr (Or.inr (Or.inr ⟨rfl, rfl, rfl, Int.le_refl _, by omega⟩))
      · exact Or.inr (Or.inr (Or.inl ⟨rfl, rfl, rfl, z1 _⟩))
    · cases dn
      · exact Or.inr (Or.inr (Or.inl ⟨rfl, rfl, rfl, z2 _⟩))
      · have : ¬ k + 1 < zs.length := by simpa [inP] using hin
        exact Or.inr (Or.inr (Or.inr ⟨rfl, rfl, rfl, Int.le_refl _, by omega⟩))
  · obtain ⟨hl, hn, hf, hfl⟩ := inP_l hkl hin
    have hz := r.z hl
    cases hc : crB ys (i : Int) c h (fk k dn : Nat)
    · -- a turn
      have he0 : evV zs ys i c h k dn ≠ 1 := by unfold evV; rw [hin, hc]; simp
      have ha0 : adHi zs ys i c h k dn = tnHi zs ys i c h (lk k dn) dn := by unfold adHi; rw [hin, hc]; rfl
      have hb0 := tn_up r hl dn (by rw [hn]; exact hck) (by rw [hf]; exact hc)
      rw [if_neg he0] at hk hd
      have hw : wgt zs ys i c h (lk k dn) = 3700 * zD zs (lk k dn) := by
        unfold wgt
        rw [if_pos hl]
        cases dn
        · have c1 : crB ys (i : Int) c h (lk k false : Nat) = false := hc
          have c2 : crB ys (i : Int) c h ((lk k false + 1 : Nat) : Int) = true := by rw [show lk k false + 1 = k from hn]; exact hck
          rw [c1, c2]; rfl
        · have c1 : crB ys (i : Int) c h (lk k true : Nat) = true := hck
          have c2 : crB ys (i : Int) c h ((lk k true + 1 : Nat) : Int) = false := hc
          rw [c1, c2]; rfl
      obtain ⟨t, ht⟩ : ∃ t, tnHi zs ys i c h (lk k dn) dn = t := ⟨_, rfl⟩
      rw [ht] at ha0 hb0
      cases dn
      · have hl' : k - 1 + 1 < zs.length := hl
        have hk0 : k - 1 + 1 = k := hn
        change t ≤ 3700 * zD zs (k - 1) at hb0
        change wgt zs ys i c h (k - 1) = 3700 * zD zs (k - 1) at hw
        have hki : k ≤ i := by
          rcases Nat.lt_or_ge i k with g | g
          · have := hcr (k - 1) (Or.inl ⟨by omega, by omega⟩)
            have h2 : crB ys (i : Int) c h ((k - 1 : Nat) : Int) = false := hc
            rw [h2] at this; cases this
          · exact g
        by_cases hq : k = i
        · refine ⟨k, true, 0, 0, t, hk, hd, by omega, Or.inr (Or.inr (Or.inr ⟨rfl, rfl, rfl, Int.le_refl _, by omega⟩)), Or.inr (Or.inr (Or.inl ⟨rfl, rfl, rfl, z2 _⟩)), ?_, hcr⟩
          have := adj_z r hl' (Or.inr (by omega))
          omega
        · refine ⟨k, true, 0, t, 0, hk, hd, by omega, Or.inr (Or.inr (Or.inr ⟨rfl, rfl, rfl, Int.le_refl _, by omega⟩)), Or.inr (Or.inr (Or.inl ⟨rfl, rfl, rfl, ?_⟩)), hA, hcr⟩
          show t ≤ fuW zs ys i c h ((i : Int) - k).toNat
          unfold fuW
          rw [if_neg (by omega), if_pos (by omega), show i - ((i : Int) - k).toNat - 1 = k - 1 by omega, hw]
          exact hb0
      · have hl' : k + 1 < zs.length := hl
        change t ≤ 3700 * zD zs k at hb0
        change wgt zs ys i c h k = 3700 * zD zs k at hw
        have hki : i ≤ k := by
          rcases Nat.lt_or_ge k i with g | g
          · have := hcr (k + 1) (Or.inr ⟨by omega, by omega⟩)
            have h2 : crB ys (i : Int) c h ((k + 1 : Nat) : Int) = false := hc
            rw [h2] at this; cases this
          · exact g
        by_cases hq : k = i
        · refine ⟨k, false, 0, 0, t, hk, hd, by omega, Or.inr (Or.inr (Or.inl ⟨rfl, rfl, rfl, z1 _⟩)), Or.inr (Or.inr (Or.inr ⟨rfl, rfl, rfl, Int.le_refl _, by omega⟩)), ?_, hcr⟩
          have := adj_z r hl' (Or.inl hq)
          omega
        · refine ⟨k, false, t, 0, 0, hk, hd, by omega, Or.inr (Or.inr (Or.inl ⟨rfl, rfl, rfl, ?_⟩)), Or.inr (Or.inr (Or.inr ⟨rfl, rfl, rfl, Int.le_refl _, by omega⟩)), hA, hcr⟩
          show t ≤ fdW zs ys i c h ((k : Int) - i).toNat
          unfold fdW
          rw [if_neg (by omega), show i + ((k : Int) - i).toNat = k by omega, hw]
          exact hb0
    · -- a crossing
      have he0 : evV zs ys i c h k dn = 1 := by unfold evV; rw [hin, hc]; rfl
      have ha0 : adHi zs ys i c h k dn = crHi zs ys i c h (lk k dn) := by unfold adHi; rw [hin, hc]; rfl
      rw [if_pos he0] at hk hd
      obtain ⟨b1, b2⟩ : crB ys (i : Int) c h (lk k dn : Nat) = true ∧ crB ys (i : Int) c h ((lk k dn + 1 : Nat) : Int) = true := by
        cases dn
        · exact ⟨hc, by rw [show lk k false + 1 = k from hn]; exact hck⟩
        · exact ⟨hck, hc⟩
      have hw : wgt zs ys i c h (lk k dn) = crHi zs ys i c h (lk k dn) := by
        unfold wgt
        rw [if_pos hl, b1, b2]; rfl
      obtain ⟨t, ht⟩ : ∃ t, crHi zs ys i c h (lk k dn) = t := ⟨_, rfl⟩
      have hadj : ∀ (_ : lk k dn = i ∨ lk k dn + 1 = i), t ≤ adjA zs i := fun g => by
        have g1 := cr_adj r hl b1 b2 g
        have g2 := adj_z r hl g
        omega
      rw [ht] at ha0 hw
      cases dn
      · have hk0 : k - 1 + 1 = k := hn
        have hk1 : (nxt zs ys i c h ⟨k, false, lo, hi⟩).k = k - 1 := hk
        change wgt zs ys i c h (k - 1) = t at hw
        have s4 : ∀ j : Nat, (i ≤ j ∧ j ≤ k - 1) ∨ (k - 1 ≤ j ∧ j ≤ i) → crB ys (i : Int) c h (j : Int) = true := by
          intro j hj
          by_cases hjk : j = k - 1
          · rw [hjk]; exact hc
          · exact hcr j (by omega)
        have hs1 : ∀ d : Int, d ≤ fdW zs ys i c h ((k : Int) - i - 1).toNat → StpOk (fun q => fdW zs ys i c h q.toNat) ((k : Int) - i) false (((k - 1 : Nat) : Int) - i) false d := fun d hd => Or.inr (Or.inl ⟨rfl, rfl, by omega, hd⟩)
        have hs2 : ∀ d : Int, d ≤ fuW zs ys i c h ((i : Int) - k).toNat → StpOk (fun q => fuW zs ys i c h q.toNat) ((i : Int) - k) (!false) ((i : Int) - ((k - 1 : Nat) : Int)) (!false) d := fun d hd => Or.inl ⟨rfl, rfl, by omega, hd⟩
        rcases (by omega : i + 1 ≤ k - 1 ∨ k + 1 ≤ i ∨ (k - 1 = i ∨ k - 1 + 1 = i)) with g | g | g
        · refine ⟨k - 1, false, t, 0, 0, hk1, hd, by omega, hs1 t ?_, hs2 0 (z2 _), hA, s4⟩
          unfold fdW
          rw [if_neg (by omega), show i + ((k : Int) - i - 1).toNat = k - 1 by omega, hw]
          exact Int.le_refl _
        · refine ⟨k - 1, false, 0, t, 0, hk1, hd, by omega, hs1 0 (z1 _), hs2 t ?_, hA, s4⟩
          unfold fuW
          rw [if_neg (by omega), if_pos (by omega), show i - ((i : Int) - k).toNat - 1 = k - 1 by omega, hw]
          exact Int.le_refl _
        · exact ⟨k - 1, false, 0, 0, t, hk1, hd, by omega, hs1 0 (z1 _), hs2 0 (z2 _), hadj g, s4⟩
      · have hk1 : (nxt zs ys i c h ⟨k, true, lo, hi⟩).k = k + 1 := hk
        change wgt zs ys i c h k = t at hw
        have s4 : ∀ j : Nat, (i ≤ j ∧ j ≤ k + 1) ∨ (k + 1 ≤ j ∧ j ≤ i) → crB ys (i : Int) c h (j : Int) = true := by
          intro j hj
          by_cases hjk : j = k + 1
          · rw [hjk]; exact hc
          · exact hcr j (by omega)
        have hs1 : ∀ d : Int, d ≤ fdW zs ys i c h ((k : Int) - i).toNat → StpOk (fun q => fdW zs ys i c h q.toNat) ((k : Int) - i) true (((k + 1 : Nat) : Int) - i) true d := fun d hd => Or.inl ⟨rfl, rfl, by omega, hd⟩
        have hs2 : ∀ d : Int, d ≤ fuW zs ys i c h ((i : Int) - k - 1).toNat → StpOk (fun q => fuW zs ys i c h q.toNat) ((i : Int) - k) (!true) ((i : Int) - ((k + 1 : Nat) : Int)) (!true) d := fun d hd => Or.inr (Or.inl ⟨rfl, rfl, by omega, hd⟩)
        rcases (by omega : i + 1 ≤ k ∨ k + 2 ≤ i ∨ (k = i ∨ k + 1 = i)) with g | g | g
        · refine ⟨k + 1, true, t, 0, 0, hk1, hd, by omega, hs1 t ?_, hs2 0 (z2 _), hA, s4⟩
          unfold fdW
          rw [if_neg (by omega), show i + ((k : Int) - i).toNat = k by omega, hw]
          exact Int.le_refl _
        · refine ⟨k + 1, true, 0, t, 0, hk1, hd, by omega, hs1 0 (z1 _), hs2 t ?_, hA, s4⟩
          unfold fuW
          rw [if_neg (by omega), if_pos (by omega), show i - ((i : Int) - k - 1).toNat - 1 = k by omega, hw]
          exact Int.le_refl _
        · exact ⟨k + 1, true, 0, 0, t, hk1, hd, by omega, hs1 0 (z1 _), hs2 0 (z2 _), hadj g, s4⟩
theorem WayI.run {zs ys : List Int} {i : Nat} {c s h : Int} (r : RyOk zs ys i c s h) : ∀ {n : Nat}, okN zs ys i c h (fst0 i s) n = true → WayI zs ys i c h n (runS zs ys i c h (fst0 i s) n)
  | 0, _ => WayI.first r
  | n + 1, e => by
    have e' := e
    unfold okN at e
    rw [Bool.and_eq_true] at e
    exact (WayI.run r e.1).next r ((SOk.first r).run r e.1)
/-- the range of a ray by its weights -/
theorem run_up {zs ys : List Int} {i : Nat} {c s h : Int} (r : RyOk zs ys i c s h) {n : Nat} (hn : n ≤ 100) (e : okN zs ys i c h (fst0 i s) n = true) : (runS zs ys i c h (fst0 i s) n).hi ≤ 34 * sumTo (fdW zs ys i c h) zs.length + 34 * sumTo (fuW zs ys i c h) zs.length + 100 * adjA zs i := by
  obtain ⟨a, b, g, h1, h2, h3, h4⟩ := (WayI.run r e).ex
  have p1 := pot_le (fd_wts r) (((runS zs ys i c h (fst0 i s) n).k : Int) - i) (runS zs ys i c h (fst0 i s) n).dn
  have p2 := pot_le (fu_wts r) ((i : Int) - (runS zs ys i c h (fst0 i s) n).k) (!(runS zs ys i c h (fst0 i s) n).dn)
  have m : ∀ U : Int, 0 ≤ U → U * n ≤ U * 100 := fun U h0 => Int.mul_le_mul_of_nonneg_left (by omega) h0
  have m1 := m _ (fd_wts r).u0
  have m2 := m _ (fu_wts r).u0
  have m3 := m _ (adjA_nn r)
  omega
theorem dep_le {zs ys : List Int} {i : Nat} {c s h : Int} (r : RyOk zs ys i c s h) (a : Nat) : ∀ k, dep zs a ≤ dep zs (a + k)
  | 0 => Int.le_refl _
  | k + 1 => Int.le_trans (dep_le r a k) (dep_mono r (a + k))
/-- two rays of different cosines -/
theorem two_up {zs ys : List Int} {i : Nat} {c s h x y z : Int} (r : RyOk zs ys i c s h) (q : RyOk zs ys i x y z) (hne : z * c ≠ h * x) {n : Nat} (hn : n ≤ 100) (e1 : okN zs ys i c h (fst0 i s) n = true) (e2 : okN zs ys i x z (fst0 i y) n = true) :
    (runS zs ys i c h (fst0 i s) n).hi + (runS zs ys i x z (fst0 i y) n).hi ≤ 1000000000000 := by
  have u1 := run_up r hn e1
  have u2 := run_up q hn e2
  have d1 : ∀ m : Nat, sumTo (fdW zs ys i c h) (m + 1) + sumTo (fdW zs ys i x z) (m + 1) ≤ 29411 * (dep zs (i + (m + 1)) - dep zs (i + 1)) := by
    intro m
    induction m with
    | zero => show 0 + fdW zs ys i c h 0 + (0 + fdW zs ys i x z 0) ≤ _; unfold fdW; simp
    | succ m ih =>
      have h1 := wgt_two r q hne (i + (m + 1))
      have e3 : fdW zs ys i c h (m + 1) = wgt zs ys i c h (i + (m + 1)) := by unfold fdW; rw [if_neg (by omega)]
      have e4 : fdW zs ys i x z (m + 1) = wgt zs ys i x z (i + (m + 1)) := by unfold fdW; rw [if_neg (by omega)]
      show sumTo (fdW zs ys i c h) (m + 1) + fdW zs ys i c h (m + 1) + (sumTo (fdW zs ys i x z) (m + 1) + fdW zs ys i x z (m + 1)) ≤ 29411 * (dep zs (i + (m + 1) + 1) - dep zs (i + 1))
      omega
  have d2 : ∀ m : Nat, sumTo (fuW zs ys i c h) (m + 1) + sumTo (fuW zs ys i x z) (m + 1) ≤ 29411 * (dep zs (i - 1) - dep zs (i - (m + 1))) := by
    intro m
    induction m with
    | zero => show 0 + fuW zs ys i c h 0 + (0 + fuW zs ys i x z 0) ≤ _; unfold fuW; simp
    | succ m ih =>
      show sumTo (fuW zs ys i c h) (m + 1) + fuW zs ys i c h (m + 1) + (sumTo (fuW zs ys i x z) (m + 1) + fuW zs ys i x z (m + 1)) ≤ 29411 * (dep zs (i - 1) - dep zs (i - (m + 1 + 1)))
      by_cases hi : m + 1 + 1 ≤ i
      · have h1 := wgt_two r q hne (i - (m + 1) - 1)
        have e3 : fuW zs ys i c h (m + 1) = wgt zs ys i c h (i - (m + 1) - 1) := by unfold fuW; rw [if_neg (by omega), if_pos hi]
        have e4 : fuW zs ys i x z (m + 1) = wgt zs ys i x z (i - (m + 1) - 1) := by unfold fuW; rw [if_neg (by omega), if_pos hi]
        rw [show i - (m + 1) - 1 + 1 = i - (m + 1) by omega] at h1
        rw [show i - (m + 1 + 1) = i - (m + 1) - 1 by omega]
        omega
      · have e3 : fuW zs ys i c h (m + 1) = 0 := by unfold fuW; rw [if_neg (by omega), if_neg hi]
        have e4 : fuW zs ys i x z (m + 1) = 0 := by unfold fuW; rw [if_neg (by omega), if_neg hi]
        rw [show i - (m + 1 + 1) = i - (m + 1) by omega]
        omega
  have hl := r.ok.n2
  have g1 := d1 (zs.length - 1)
  have g2 := d2 (zs.length - 1)
  rw [show zs.length - 1 + 1 = zs.length by omega] at g1 g2
  have k1 : dep zs (i + zs.length) ≤ 1000000 := r.ok.hi _
  have k2 : 0 ≤ dep zs (i - zs.length) := r.ok.lo _
  have k3 := dep_le r (i + 1) (zs.length - 1)
  rw [show i + 1 + (zs.length - 1) = i + zs.length by omega] at k3
  have k4 := dep_le r (i - zs.length) ((i - 1) - (i - zs.length))
  rw [show i - zs.length + (i - 1 - (i - zs.length)) = i - 1 by omega] at k4
  have k5 := dep_le r (i - 1) ((i + 1) - (i - 1))
  rw [show i - 1 + (i + 1 - (i - 1)) = i + 1 by omega] at k5
  unfold adjA at u1 u2
  omega
end
end Go.Proofs.YtgecbfbmmbfnmaaGreat
