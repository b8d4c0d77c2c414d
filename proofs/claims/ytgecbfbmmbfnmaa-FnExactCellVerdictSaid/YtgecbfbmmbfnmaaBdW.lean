/- How far two rays of different cosines go in 100 events: together not farther than the greatest value. -/
import Derived.Test.YtgecbfbmmbfnmaaBdA
import Derived.Test.YtgecbfbmmbfnmaaBdN
namespace Go.Proofs.Ytgecbfbmmbfnmaa
open Num
set_option linter.unusedVariables false
/-- the weight of a layer for a ray -/
def wgt (zs ys : List Int) (i : Nat) (c h : Int) (l : Nat) : Int :=
  if l + 1 < zs.length then (if crB ys (i : Int) c h (l : Int) && crB ys (i : Int) c h ((l + 1 : Nat) : Int) then crHi zs ys i c h l else if crB ys (i : Int) c h (l : Int) || crB ys (i : Int) c h ((l + 1 : Nat) : Int) then 3700 * zD zs l else 0) else 0
theorem wgt_nn {zs ys : List Int} {i : Nat} {c s h : Int} (r : RyOk zs ys i c s h) (l : Nat) : 0 ≤ wgt zs ys i c h l := by
  unfold wgt
  split
  · rename_i hl
    have hz := r.z hl
    split
    · rename_i e
      rw [Bool.and_eq_true] at e
      have := cr_bounds r hl e.1 e.2
      omega
    · split <;> omega
  · exact Int.le_refl _
theorem wgt_out {zs ys : List Int} {i : Nat} {c h : Int} {l : Nat} (hl : ¬ l + 1 < zs.length) : wgt zs ys i c h l = 0 := if_neg hl
/-- the depth of a knot, that of the last one behind it -/
def dep (zs : List Int) (k : Nat) : Int := zs.getD (min k (zs.length - 1)) 0
theorem dep_z {zs : List Int} {l : Nat} (hl : l + 1 < zs.length) : dep zs (l + 1) - dep zs l = zD zs l := by
  unfold dep zD
  rw [show min (l + 1) (zs.length - 1) = l + 1 by omega, show min l (zs.length - 1) = l by omega]
theorem dep_mono {zs ys : List Int} {i : Nat} {c s h : Int} (r : RyOk zs ys i c s h) (l : Nat) : dep zs l ≤ dep zs (l + 1) := by
  by_cases hl : l + 1 < zs.length
  · have := dep_z hl
    have := r.z hl
    omega
  · unfold dep
    rw [show min (l + 1) (zs.length - 1) = zs.length - 1 by omega, show min l (zs.length - 1) = zs.length - 1 by omega]
    exact Int.le_refl _
theorem wgt_two {zs ys : List Int} {i : Nat} {c s h x y z : Int} (r : RyOk zs ys i c s h) (q : RyOk zs ys i x y z) (hne : z * c ≠ h * x) (l : Nat) : wgt zs ys i c h l + wgt zs ys i x z l ≤ 29411 * (dep zs (l + 1) - dep zs l) := by
  by_cases hl : l + 1 < zs.length
  · rw [dep_z hl]
    have hz := r.z hl
    -- where just one of the knots can be crossed, the speeds differ
    have dif : ∀ {c s h : Int}, RyOk zs ys i c s h → (crB ys (i : Int) c h (l : Int) && crB ys (i : Int) c h ((l + 1 : Nat) : Int)) = false → (crB ys (i : Int) c h (l : Int) || crB ys (i : Int) c h ((l + 1 : Nat) : Int)) = true → ys.getD l 0 ≠ ys.getD (l + 1) 0 := by
      intro c s h r e1 e2 he
      have : crB ys (i : Int) c h (l : Int) = crB ys (i : Int) c h ((l + 1 : Nat) : Int) := by unfold crB; rw [rA_nat, rB_nat, rB_nat, he]
      rw [this] at e1 e2
      cases hk : crB ys (i : Int) c h ((l + 1 : Nat) : Int) <;> rw [hk] at e1 e2 <;> simp at e1 e2
    unfold wgt
    rw [if_pos hl, if_pos hl]
    cases a1 : (crB ys (i : Int) c h (l : Int) && crB ys (i : Int) c h ((l + 1 : Nat) : Int)) <;> cases b1 : (crB ys (i : Int) x z (l : Int) && crB ys (i : Int) x z ((l + 1 : Nat) : Int))
    · have ff : ¬ (false = true) := by simp
      rw [if_neg ff, if_neg ff]
      split <;> split <;> omega
    · rw [if_neg (by simp), if_pos rfl]
      rw [Bool.and_eq_true] at b1
      cases a2 : (crB ys (i : Int) c h (l : Int) || crB ys (i : Int) c h ((l + 1 : Nat) : Int))
      · rw [if_neg (by simp)]
        have := cr_one q hl b1.1 b1.2
        omega
      · rw [if_pos rfl]
        have := cr_diff q hl b1.1 b1.2 (dif r a1 a2)
        omega
    · rw [if_neg (by simp : ¬ (false = true)), if_pos rfl]
      rw [Bool.and_eq_true] at a1
      cases a2 : (crB ys (i : Int) x z (l : Int) || crB ys (i : Int) x z ((l + 1 : Nat) : Int))
      · rw [if_neg (by simp)]
        have := cr_one r hl a1.1 a1.2
        omega
      · rw [if_pos rfl]
        have := cr_diff r hl a1.1 a1.2 (dif q b1 a2)
        omega
    · rw [if_pos rfl, if_pos rfl]
      rw [Bool.and_eq_true] at a1 b1
      exact cr_two r q hl a1.1 a1.2 b1.1 b1.2 hne
  · rw [wgt_out hl, wgt_out hl]
    have := dep_mono r l
    omega
/-- the weights below the source, above it -/
def fdW (zs ys : List Int) (i : Nat) (c h : Int) (j : Nat) : Int := if j = 0 then 0 else wgt zs ys i c h (i + j)
def fuW (zs ys : List Int) (i : Nat) (c h : Int) (j : Nat) : Int := if j = 0 then 0 else if j + 1 ≤ i then wgt zs ys i c h (i - j - 1) else 0
theorem fd_wts {zs ys : List Int} {i : Nat} {c s h : Int} (r : RyOk zs ys i c s h) : Wts (fun q => fdW zs ys i c h q.toNat) (fun q => sumTo (fdW zs ys i c h) q.toNat) (sumTo (fdW zs ys i c h) zs.length) :=
  Wts.of rfl (fun j => by unfold fdW; split; exact Int.le_refl _; exact wgt_nn r _) (fun j hj => by unfold fdW; split; rfl; exact wgt_out (by omega))
theorem fu_wts {zs ys : List Int} {i : Nat} {c s h : Int} (r : RyOk zs ys i c s h) : Wts (fun q => fuW zs ys i c h q.toNat) (fun q => sumTo (fuW zs ys i c h) q.toNat) (sumTo (fuW zs ys i c h) zs.length) :=
  Wts.of rfl (fun j => by unfold fuW; split; exact Int.le_refl _; split; exact wgt_nn r _; exact Int.le_refl _) (fun j hj => by have := r.hi; unfold fuW; split; rfl; rw [if_neg (by omega)])
/-- what the layers at the source can add at once -/
def adjA (zs : List Int) (i : Nat) : Int := 3700 * (dep zs (i + 1) - dep zs (i - 1))
/-- how far a ray can have come -/
structure WayI (zs ys : List Int) (i : Nat) (c h : Int) (n : Nat) (x : RSt) : Prop where
  ex : ∃ a b e : Int, x.hi = a + b + e ∧ 3 * a ≤ sumTo (fdW zs ys i c h) zs.length * n + pot (fun q => sumTo (fdW zs ys i c h) q.toNat) (sumTo (fdW zs ys i c h) zs.length) ((x.k : Int) - i) x.dn
    ∧ 3 * b ≤ sumTo (fuW zs ys i c h) zs.length * n + pot (fun q => sumTo (fuW zs ys i c h) q.toNat) (sumTo (fuW zs ys i c h) zs.length) ((i : Int) - x.k) (!x.dn) ∧ e ≤ adjA zs i * n
  cr : ∀ j : Nat, (i ≤ j ∧ j ≤ x.k) ∨ (x.k ≤ j ∧ j ≤ i) → crB ys (i : Int) c h (j : Int) = true
theorem adjA_nn {zs ys : List Int} {i : Nat} {c s h : Int} (r : RyOk zs ys i c s h) : 0 ≤ adjA zs i := by
  have h1 := dep_mono r i
  have h2 : dep zs (i - 1) ≤ dep zs i := by
    cases i with
    | zero => exact Int.le_refl _
    | succ i => exact dep_mono r i
  unfold adjA
  omega
theorem adj_z {zs ys : List Int} {i : Nat} {c s h : Int} (r : RyOk zs ys i c s h) {l : Nat} (hl : l + 1 < zs.length) (hi : l = i ∨ l + 1 = i) : 3700 * zD zs l ≤ adjA zs i := by
  have h1 := dep_mono r i
  have h3 := dep_z hl
  unfold adjA
  rcases hi with e | e
  · subst e
    have h2 : dep zs (l - 1) ≤ dep zs l := by
      cases l with
      | zero => exact Int.le_refl _
      | succ l => exact dep_mono r l
    omega
  · rw [show i - 1 = l by omega]
    rw [← e] at h1 ⊢
    omega
theorem WayI.first {zs ys : List Int} {i : Nat} {c s h : Int} (r : RyOk zs ys i c s h) : WayI zs ys i c h 0 (fst0 i s) := by
  have u1 := (fd_wts r).u0
  have u2 := (fu_wts r).u0
  have p : ∀ (D : Int → Int) (U : Int) (o : Bool), 0 ≤ U → 0 ≤ pot D U ((i : Int) - i) o := by
    intro D U o h0
    unfold pot
    rw [if_neg (by omega)]
    cases o <;> simp <;> omega
  refine ⟨⟨0, 0, 0, rfl, ?_, ?_, by simp⟩, fun j hj => ?_⟩
  · have := p (fun q => sumTo (fdW zs ys i c h) q.toNat) _ (fst0 i s).dn u1
    show 3 * 0 ≤ _ * ((0 : Nat) : Int) + pot _ _ ((i : Int) - i) _
    simp only [Int.natCast_zero, Int.mul_zero]
    omega
  · have := p (fun q => sumTo (fuW zs ys i c h) q.toNat) _ (!(fst0 i s).dn) u2
    show 3 * 0 ≤ _ * ((0 : Nat) : Int) + pot _ _ ((i : Int) - i) _
    simp only [Int.natCast_zero, Int.mul_zero]
    omega
  · have hj' : j = i := by
      have e : (fst0 i s).k = i := rfl
      rw [e] at hj
      omega
    rw [hj']
    exact cr_self r
/-- one event more -/
theorem WayI.next {zs ys : List Int} {i : Nat} {c s h : Int} (r : RyOk zs ys i c s h) {n : Nat} {x : RSt} (o : SOk zs ys i c h x) (w : WayI zs ys i c h n x) : WayI zs ys i c h (n + 1) (nxt zs ys i c h x) := by
  obtain ⟨⟨a, b, e, hx, ha, hb, he⟩, hcr⟩ := w
  have hA := adjA_nn r
  have hkl := o.kl
  have hil := r.hi
  have hck := o.cr
  obtain ⟨k, dn, lo, hi⟩ := x
  dsimp only at hx ha hb hkl hck hcr
  -- the step on each side
  suffices H : ∃ (k' : Nat) (dn' : Bool) (da db de : Int), (nxt zs ys i c h ⟨k, dn, lo, hi⟩).k = k' ∧ (nxt zs ys i c h ⟨k, dn, lo, hi⟩).dn = dn' ∧ adHi zs ys i c h k dn = da + db + de ∧ StpOk (fun q => fdW zs ys i c h q.toNat) ((k : Int) - i) dn ((k' : Int) - i) dn' da
      ∧ StpOk (fun q => fuW zs ys i c h q.toNat) ((i : Int) - k) (!dn) ((i : Int) - k') (!dn') db ∧ de ≤ adjA zs i ∧ (∀ j : Nat, (i ≤ j ∧ j ≤ k') ∨ (k' ≤ j ∧ j ≤ i) → crB ys (i : Int) c h (j : Int) = true) by
    obtain ⟨k', dn', da, db, de, e1, e2, e3, s1, s2, s3, s4⟩ := H
    have p1 := pot_step (fd_wts r) s1
    have p2 := pot_step (fu_wts r) s2
    have n1 : ∀ U : Int, U * ((n + 1 : Nat) : Int) = U * n + U := fun U => by rw [Int.natCast_add, Int.mul_add]; simp
    refine ⟨⟨a + da, b + db, e + de, ?_, ?_, ?_, ?_⟩, by rw [e1]; exact s4⟩
    · show hi + adHi zs ys i c h k dn = _
      omega
    · rw [e1, e2, n1]; omega
    · rw [e1, e2, n1]; omega
    · rw [n1]; omega
  have hk : (nxt zs ys i c h ⟨k, dn, lo, hi⟩).k = if evV zs ys i c h k dn = 1 then fk k dn else k := rfl
  have hd : (nxt zs ys i c h ⟨k, dn, lo, hi⟩).dn = if evV zs ys i c h k dn = 1 then dn else !dn := rfl
  have z1 : ∀ q, 0 ≤ fdW zs ys i c h q := fun q => (fd_wts r).w0 q
  have z2 : ∀ q, 0 ≤ fuW zs ys i c h q := fun q => (fu_wts r).w0 q
  cases hin : inP zs.length k dn
  · -- the surface, the bottom
    have he0 : evV zs ys i c h k dn ≠ 1 := by unfold evV; rw [hin]; cases dn <;> simp
    have ha0 : adHi zs ys i c h k dn = 0 := by unfold adHi; rw [hin]; rfl
    rw [if_neg he0] at hk hd
    refine ⟨k, !dn, 0, 0, 0, hk, hd, by omega, ?_, ?_, hA, hcr⟩
    · cases dn
      · have : k = 0 := by simpa [inP] using hin
        exact Or.inr (Or.inr (Or.inr ⟨rfl, rfl, rfl, Int.le_refl _, by omega⟩))
      · exact Or.inr (Or.inr (Or.inl ⟨rfl, rfl, rfl, z1 _⟩))
    · cases dn
      · exact Or.inr (Or.inr (Or.inl ⟨rfl, rfl, rfl, z2 _⟩))
      · have : ¬ k + 1 < zs.length := by simpa [inP] using hin
        exact Or.inr (Or.inr (Or.inr ⟨rfl, rfl, rfl, Int.le_refl _, by omega⟩))
  · obtain ⟨hl, hn, hf, hfl⟩ := inP_l hkl hin
    have hz := r.z hl
    cases hc : crB ys (i : Int) c h (fk k dn : Nat)
    · -- a turn
      have he0 : evV zs ys i c h k dn ≠ 1 := by unfold evV; rw [hin, hc]; simp
      have ha0 : adHi zs ys i c h k dn = tnHi zs ys i c h (lk k dn) dn := by unfold adHi; rw [hin, hc]; rfl
      have hb0 := tn_up r hl dn (by rw [hn]; exact hck) (by rw [hf]; exact hc)
      rw [if_neg he0] at hk hd
      have hw : wgt zs ys i c h (lk k dn) = 3700 * zD zs (lk k dn) := by
        unfold wgt
        rw [if_pos hl]
        cases dn
        · have c1 : crB ys (i : Int) c h (lk k false : Nat) = false := hc
          have c2 : crB ys (i : Int) c h ((lk k false + 1 : Nat) : Int) = true := by rw [show lk k false + 1 = k from hn]; exact hck
          rw [c1, c2]; rfl
        · have c1 : crB ys (i : Int) c h (lk k true : Nat) = true := hck
          have c2 : crB ys (i : Int) c h ((lk k true + 1 : Nat) : Int) = false := hc
          rw [c1, c2]; rfl
      obtain ⟨t, ht⟩ : ∃ t, tnHi zs ys i c h (lk k dn) dn = t := ⟨_, rfl⟩
      rw [ht] at ha0 hb0
      cases dn
      · have hl' : k - 1 + 1 < zs.length := hl
        have hk0 : k - 1 + 1 = k := hn
        change t ≤ 3700 * zD zs (k - 1) at hb0
        change wgt zs ys i c h (k - 1) = 3700 * zD zs (k - 1) at hw
        have hki : k ≤ i := by
          rcases Nat.lt_or_ge i k with g | g
          · have := hcr (k - 1) (Or.inl ⟨by omega, by omega⟩)
            have h2 : crB ys (i : Int) c h ((k - 1 : Nat) : Int) = false := hc
            rw [h2] at this; cases this
          · exact g
        by_cases hq : k = i
        · refine ⟨k, true, 0, 0, t, hk, hd, by omega, Or.inr (Or.inr (Or.inr ⟨rfl, rfl, rfl, Int.le_refl _, by omega⟩)), Or.inr (Or.inr (Or.inl ⟨rfl, rfl, rfl, z2 _⟩)), ?_, hcr⟩
          have := adj_z r hl' (Or.inr (by omega))
          omega
        · refine ⟨k, true, 0, t, 0, hk, hd, by omega, Or.inr (Or.inr (Or.inr ⟨rfl, rfl, rfl, Int.le_refl _, by omega⟩)), Or.inr (Or.inr (Or.inl ⟨rfl, rfl, rfl, ?_⟩)), hA, hcr⟩
          show t ≤ fuW zs ys i c h ((i : Int) - k).toNat
          unfold fuW
          rw [if_neg (by omega), if_pos (by omega), show i - ((i : Int) - k).toNat - 1 = k - 1 by omega, hw]
          exact hb0
      · have hl' : k + 1 < zs.length := hl
        change t ≤ 3700 * zD zs k at hb0
        change wgt zs ys i c h k = 3700 * zD zs k at hw
        have hki : i ≤ k := by
          rcases Nat.lt_or_ge k i with g | g
          · have := hcr (k + 1) (Or.inr ⟨by omega, by omega⟩)
            have h2 : crB ys (i : Int) c h ((k + 1 : Nat) : Int) = false := hc
            rw [h2] at this; cases this
          · exact g
        by_cases hq : k = i
        · refine ⟨k, false, 0, 0, t, hk, hd, by omega, Or.inr (Or.inr (Or.inl ⟨rfl, rfl, rfl, z1 _⟩)), Or.inr (Or.inr (Or.inr ⟨rfl, rfl, rfl, Int.le_refl _, by omega⟩)), ?_, hcr⟩
          have := adj_z r hl' (Or.inl hq)
          omega
        · refine ⟨k, false, t, 0, 0, hk, hd, by omega, Or.inr (Or.inr (Or.inl ⟨rfl, rfl, rfl, ?_⟩)), Or.inr (Or.inr (Or.inr ⟨rfl, rfl, rfl, Int.le_refl _, by omega⟩)), hA, hcr⟩
          show t ≤ fdW zs ys i c h ((k : Int) - i).toNat
          unfold fdW
          rw [if_neg (by omega), show i + ((k : Int) - i).toNat = k by omega, hw]
          exact hb0
    · -- a crossing
      have he0 : evV zs ys i c h k dn = 1 := by unfold evV; rw [hin, hc]; rfl
      have ha0 : adHi zs ys i c h k dn = crHi zs ys i c h (lk k dn) := by unfold adHi; rw [hin, hc]; rfl
      rw [if_pos he0] at hk hd
      obtain ⟨b1, b2⟩ : crB ys (i : Int) c h (lk k dn : Nat) = true ∧ crB ys (i : Int) c h ((lk k dn + 1 : Nat) : Int) = true := by
        cases dn
        · exact ⟨hc, by rw [show lk k false + 1 = k from hn]; exact hck⟩
        · exact ⟨hck, hc⟩
      have hw : wgt zs ys i c h (lk k dn) = crHi zs ys i c h (lk k dn) := by
        unfold wgt
        rw [if_pos hl, b1, b2]; rfl
      obtain ⟨t, ht⟩ : ∃ t, crHi zs ys i c h (lk k dn) = t := ⟨_, rfl⟩
      have hadj : ∀ (_ : lk k dn = i ∨ lk k dn + 1 = i), t ≤ adjA zs i := fun g => by
        have g1 := cr_adj r hl b1 b2 g
        have g2 := adj_z r hl g
        omega
      rw [ht] at ha0 hw
      cases dn
      · have hk0 : k - 1 + 1 = k := hn
        have hk1 : (nxt zs ys i c h ⟨k, false, lo, hi⟩).k = k - 1 := hk
        change wgt zs ys i c h (k - 1) = t at hw
        have s4 : ∀ j : Nat, (i ≤ j ∧ j ≤ k - 1) ∨ (k - 1 ≤ j ∧ j ≤ i) → crB ys (i : Int) c h (j : Int) = true := by
          intro j hj
          by_cases hjk : j = k - 1
          · rw [hjk]; exact hc
          · exact hcr j (by omega)
        have hs1 : ∀ d : Int, d ≤ fdW zs ys i c h ((k : Int) - i - 1).toNat → StpOk (fun q => fdW zs ys i c h q.toNat) ((k : Int) - i) false (((k - 1 : Nat) : Int) - i) false d := fun d hd => Or.inr (Or.inl ⟨rfl, rfl, by omega, hd⟩)
        have hs2 : ∀ d : Int, d ≤ fuW zs ys i c h ((i : Int) - k).toNat → StpOk (fun q => fuW zs ys i c h q.toNat) ((i : Int) - k) (!false) ((i : Int) - ((k - 1 : Nat) : Int)) (!false) d := fun d hd => Or.inl ⟨rfl, rfl, by omega, hd⟩
        rcases (by omega : i + 1 ≤ k - 1 ∨ k + 1 ≤ i ∨ (k - 1 = i ∨ k - 1 + 1 = i)) with g | g | g
        · refine ⟨k - 1, false, t, 0, 0, hk1, hd, by omega, hs1 t ?_, hs2 0 (z2 _), hA, s4⟩
          unfold fdW
          rw [if_neg (by omega), show i + ((k : Int) - i - 1).toNat = k - 1 by omega, hw]
          exact Int.le_refl _
        · refine ⟨k - 1, false, 0, t, 0, hk1, hd, by omega, hs1 0 (z1 _), hs2 t ?_, hA, s4⟩
          unfold fuW
          rw [if_neg (by omega), if_pos (by omega), show i - ((i : Int) - k).toNat - 1 = k - 1 by omega, hw]
          exact Int.le_refl _
        · exact ⟨k - 1, false, 0, 0, t, hk1, hd, by omega, hs1 0 (z1 _), hs2 0 (z2 _), hadj g, s4⟩
      · have hk1 : (nxt zs ys i c h ⟨k, true, lo, hi⟩).k = k + 1 := hk
        change wgt zs ys i c h k = t at hw
        have s4 : ∀ j : Nat, (i ≤ j ∧ j ≤ k + 1) ∨ (k + 1 ≤ j ∧ j ≤ i) → crB ys (i : Int) c h (j : Int) = true := by
          intro j hj
          by_cases hjk : j = k + 1
          · rw [hjk]; exact hc
          · exact hcr j (by omega)
        have hs1 : ∀ d : Int, d ≤ fdW zs ys i c h ((k : Int) - i).toNat → StpOk (fun q => fdW zs ys i c h q.toNat) ((k : Int) - i) true (((k + 1 : Nat) : Int) - i) true d := fun d hd => Or.inl ⟨rfl, rfl, by omega, hd⟩
        have hs2 : ∀ d : Int, d ≤ fuW zs ys i c h ((i : Int) - k - 1).toNat → StpOk (fun q => fuW zs ys i c h q.toNat) ((i : Int) - k) (!true) ((i : Int) - ((k + 1 : Nat) : Int)) (!true) d := fun d hd => Or.inr (Or.inl ⟨rfl, rfl, by omega, hd⟩)
        rcases (by omega : i + 1 ≤ k ∨ k + 2 ≤ i ∨ (k = i ∨ k + 1 = i)) with g | g | g
        · refine ⟨k + 1, true, t, 0, 0, hk1, hd, by omega, hs1 t ?_, hs2 0 (z2 _), hA, s4⟩
          unfold fdW
          rw [if_neg (by omega), show i + ((k : Int) - i).toNat = k by omega, hw]
          exact Int.le_refl _
        · refine ⟨k + 1, true, 0, t, 0, hk1, hd, by omega, hs1 0 (z1 _), hs2 t ?_, hA, s4⟩
          unfold fuW
          rw [if_neg (by omega), if_pos (by omega), show i - ((i : Int) - k - 1).toNat - 1 = k by omega, hw]
          exact Int.le_refl _
        · exact ⟨k + 1, true, 0, 0, t, hk1, hd, by omega, hs1 0 (z1 _), hs2 0 (z2 _), hadj g, s4⟩
theorem WayI.run {zs ys : List Int} {i : Nat} {c s h : Int} (r : RyOk zs ys i c s h) : ∀ {n : Nat}, okN zs ys i c h (fst0 i s) n = true → WayI zs ys i c h n (runS zs ys i c h (fst0 i s) n)
  | 0, _ => WayI.first r
  | n + 1, e => by
    have e' := e
    unfold okN at e
    rw [Bool.and_eq_true] at e
    exact (WayI.run r e.1).next r ((SOk.first r).run r e.1)
/-- the range of a ray by its weights -/
theorem run_up {zs ys : List Int} {i : Nat} {c s h : Int} (r : RyOk zs ys i c s h) {n : Nat} (hn : n ≤ 100) (e : okN zs ys i c h (fst0 i s) n = true) : (runS zs ys i c h (fst0 i s) n).hi ≤ 34 * sumTo (fdW zs ys i c h) zs.length + 34 * sumTo (fuW zs ys i c h) zs.length + 100 * adjA zs i := by
  obtain ⟨a, b, g, h1, h2, h3, h4⟩ := (WayI.run r e).ex
  have p1 := pot_le (fd_wts r) (((runS zs ys i c h (fst0 i s) n).k : Int) - i) (runS zs ys i c h (fst0 i s) n).dn
  have p2 := pot_le (fu_wts r) ((i : Int) - (runS zs ys i c h (fst0 i s) n).k) (!(runS zs ys i c h (fst0 i s) n).dn)
  have m : ∀ U : Int, 0 ≤ U → U * n ≤ U * 100 := fun U h0 => Int.mul_le_mul_of_nonneg_left (by omega) h0
  have m1 := m _ (fd_wts r).u0
  have m2 := m _ (fu_wts r).u0
  have m3 := m _ (adjA_nn r)
  omega
theorem dep_le {zs ys : List Int} {i : Nat} {c s h : Int} (r : RyOk zs ys i c s h) (a : Nat) : ∀ k, dep zs a ≤ dep zs (a + k)
  | 0 => Int.le_refl _
  | k + 1 => Int.le_trans (dep_le r a k) (dep_mono r (a + k))
/-- two rays of different cosines -/
theorem two_up {zs ys : List Int} {i : Nat} {c s h x y z : Int} (r : RyOk zs ys i c s h) (q : RyOk zs ys i x y z) (hne : z * c ≠ h * x) {n : Nat} (hn : n ≤ 100) (e1 : okN zs ys i c h (fst0 i s) n = true) (e2 : okN zs ys i x z (fst0 i y) n = true) :
    (runS zs ys i c h (fst0 i s) n).hi + (runS zs ys i x z (fst0 i y) n).hi ≤ 1000000000000 := by
  have u1 := run_up r hn e1
  have u2 := run_up q hn e2
  have d1 : ∀ m : Nat, sumTo (fdW zs ys i c h) (m + 1) + sumTo (fdW zs ys i x z) (m + 1) ≤ 29411 * (dep zs (i + (m + 1)) - dep zs (i + 1)) := by
    intro m
    induction m with
    | zero => show 0 + fdW zs ys i c h 0 + (0 + fdW zs ys i x z 0) ≤ _; unfold fdW; simp
    | succ m ih =>
      have h1 := wgt_two r q hne (i + (m + 1))
      have e3 : fdW zs ys i c h (m + 1) = wgt zs ys i c h (i + (m + 1)) := by unfold fdW; rw [if_neg (by omega)]
      have e4 : fdW zs ys i x z (m + 1) = wgt zs ys i x z (i + (m + 1)) := by unfold fdW; rw [if_neg (by omega)]
      show sumTo (fdW zs ys i c h) (m + 1) + fdW zs ys i c h (m + 1) + (sumTo (fdW zs ys i x z) (m + 1) + fdW zs ys i x z (m + 1)) ≤ 29411 * (dep zs (i + (m + 1) + 1) - dep zs (i + 1))
      omega
  have d2 : ∀ m : Nat, sumTo (fuW zs ys i c h) (m + 1) + sumTo (fuW zs ys i x z) (m + 1) ≤ 29411 * (dep zs (i - 1) - dep zs (i - (m + 1))) := by
    intro m
    induction m with
    | zero => show 0 + fuW zs ys i c h 0 + (0 + fuW zs ys i x z 0) ≤ _; unfold fuW; simp
    | succ m ih =>
      show sumTo (fuW zs ys i c h) (m + 1) + fuW zs ys i c h (m + 1) + (sumTo (fuW zs ys i x z) (m + 1) + fuW zs ys i x z (m + 1)) ≤ 29411 * (dep zs (i - 1) - dep zs (i - (m + 1 + 1)))
      by_cases hi : m + 1 + 1 ≤ i
      · have h1 := wgt_two r q hne (i - (m + 1) - 1)
        have e3 : fuW zs ys i c h (m + 1) = wgt zs ys i c h (i - (m + 1) - 1) := by unfold fuW; rw [if_neg (by omega), if_pos hi]
        have e4 : fuW zs ys i x z (m + 1) = wgt zs ys i x z (i - (m + 1) - 1) := by unfold fuW; rw [if_neg (by omega), if_pos hi]
        rw [show i - (m + 1) - 1 + 1 = i - (m + 1) by omega] at h1
        rw [show i - (m + 1 + 1) = i - (m + 1) - 1 by omega]
        omega
      · have e3 : fuW zs ys i c h (m + 1) = 0 := by unfold fuW; rw [if_neg (by omega), if_neg hi]
        have e4 : fuW zs ys i x z (m + 1) = 0 := by unfold fuW; rw [if_neg (by omega), if_neg hi]
        rw [show i - (m + 1 + 1) = i - (m + 1) by omega]
        omega
  have hl := r.ok.n2
  have g1 := d1 (zs.length - 1)
  have g2 := d2 (zs.length - 1)
  rw [show zs.length - 1 + 1 = zs.length by omega] at g1 g2
  have k1 : dep zs (i + zs.length) ≤ 1000000 := r.ok.hi _
  have k2 : 0 ≤ dep zs (i - zs.length) := r.ok.lo _
  have k3 := dep_le r (i + 1) (zs.length - 1)
  rw [show i + 1 + (zs.length - 1) = i + zs.length by omega] at k3
  have k4 := dep_le r (i - zs.length) ((i - 1) - (i - zs.length))
  rw [show i - zs.length + (i - 1 - (i - zs.length)) = i - 1 by omega] at k4
  have k5 := dep_le r (i - 1) ((i + 1) - (i - 1))
  rw [show i - 1 + (i + 1 - (i - 1)) = i + 1 by omega] at k5
  unfold adjA at u1 u2
  omega
end Go.Proofs.Ytgecbfbmmbfnmaa
