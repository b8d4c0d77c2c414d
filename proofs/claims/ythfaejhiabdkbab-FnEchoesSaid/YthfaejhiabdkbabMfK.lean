/- The facts behind the law of echoes: the match of one echo with its pulse is its gain times the correlations; a clear one is found, with its gain, and nothing else. -/
import Derived.Test.YthfaejhiabdkbabMfG
import Derived.Test.YthfaejhiabdkbabPuK
namespace Go.Proofs.Ythfaejhiabdkbab
open Go.ChangeShapes Go.WideShapes Go.ChangeAt Go.RowKit
set_option linter.unusedVariables false
/-- one echo -/
def oneE (len at_ : Nat) (g : Int) (ps : List Int) : List Int := addE (List.replicate len 0) at_ g ps ps.length
theorem oneE_len (len at_ : Nat) (g : Int) (ps : List Int) : (oneE len at_ g ps).length = len := by unfold oneE; rw [addE_len, List.length_replicate]
theorem getD_rep0 (n j : Nat) : (List.replicate n (0 : Int)).getD j 0 = 0 := by
  rw [List.getD_eq_getElem?_getD, List.getElem?_replicate]
  split <;> rfl
theorem oneE_at {len at_ : Nat} {g : Int} {ps : List Int} (h : at_ + ps.length ≤ len) (j : Nat) : (oneE len at_ g ps).getD j 0 = if at_ ≤ j ∧ j < at_ + ps.length then g * ps.getD (j - at_) 0 else 0 := by
  unfold oneE
  rw [addE_at _ _ _ _ _ _ (by rw [List.length_replicate]; exact h), getD_rep0]
  split <;> omega
theorem sumT_all0 {f : Nat → Int} : ∀ {m : Nat}, (∀ i, i < m → f i = 0) → sumT f m = 0
  | 0, _ => rfl
  | m + 1, h => by rw [sumT_succ, sumT_all0 (fun i hi => h i (by omega)), h m (by omega)]; rfl
theorem mtA_one {len at_ : Nat} {g : Int} {ps : List Int} (h : at_ + ps.length ≤ len) (k : Nat) : mtA (oneE len at_ g ps) ps k = g * cor ps (if k ≤ at_ then at_ - k else k - at_) := by
  unfold mtA dotT
  by_cases hk : k ≤ at_
  · rw [if_pos hk]
    obtain ⟨t, ht⟩ : ∃ t, at_ - k = t := ⟨_, rfl⟩
    rw [ht]
    by_cases hm : ps.length ≤ t
    · rw [cor_big hm, Int.mul_zero]
      exact sumT_all0 (fun i hi => by rw [getD_drop, oneE_at h, if_neg (by omega), Int.mul_zero])
    · obtain ⟨r, hr⟩ : ∃ r, ps.length = t + r := ⟨ps.length - t, by omega⟩
      unfold cor dotT
      rw [show ps.length - t = r by omega, ← sumT_mul]
      conv => lhs; rw [hr]
      rw [sumT_split, sumT_all0 (fun i hi => by rw [getD_drop, oneE_at h, if_neg (by omega), Int.mul_zero]), Int.zero_add]
      apply sumT_congr
      intro i hi
      rw [getD_drop, getD_drop, oneE_at h, if_pos (by omega), show k + (t + i) - at_ = i by omega, ← Int.mul_assoc, ← Int.mul_assoc, Int.mul_comm (ps.getD (t + i) 0) g]
  · rw [if_neg hk]
    obtain ⟨t, ht⟩ : ∃ t, k - at_ = t := ⟨_, rfl⟩
    rw [ht]
    by_cases hm : ps.length ≤ t
    · rw [cor_big hm, Int.mul_zero]
      exact sumT_all0 (fun i hi => by rw [getD_drop, oneE_at h, if_neg (by omega), Int.mul_zero])
    · obtain ⟨r, hr⟩ : ∃ r, ps.length = r + t := ⟨ps.length - t, by omega⟩
      unfold cor dotT
      rw [show ps.length - t = r by omega, ← sumT_mul]
      conv => lhs; rw [hr]
      rw [sumT_split, sumT_all0 (f := fun i => ps.getD (r + i) 0 * ((oneE len at_ g ps).drop k).getD (r + i) 0) (fun i hi => by rw [getD_drop, oneE_at h, if_neg (by omega), Int.mul_zero]), Int.add_zero]
      apply sumT_congr
      intro i hi
      rw [getD_drop, getD_drop, oneE_at h, if_pos (by omega), show k + i - at_ = t + i by omega, ← Int.mul_assoc, ← Int.mul_assoc, Int.mul_comm (ps.getD i 0) g, Int.mul_assoc, Int.mul_assoc, Int.mul_comm (ps.getD i 0)]
theorem near_mul {g E : Int} (hE : 0 < E) : near (g * E) E = g := by
  have h1 : (g * E).fdiv E = g := Int.mul_fdiv_cancel g (by omega)
  unfold near
  rw [h1, Int.sub_self]
  rw [if_neg]
  simp only [Int.natAbs_zero]
  omega
theorem nqv_mul {g E : Int} (g1 : 1 ≤ g) (g2 : g ≤ 9) (hE : 0 < E) (hE2 : E ≤ 400000000) : nqv (g * E) E = g := by
  have := mul_abs (a := g) (n := E) (A := 9) (N := 400000000) (by omega) (by omega)
  unfold nqv
  rw [if_pos, near_mul hE]
  unfold dcode valB
  rw [decide_eq_true (by omega), decide_eq_true (by omega), show (E == 0) = false by simp; omega]
  rfl
/-- a clear echo alone is found where it begins, with its gain, and nothing else -/
theorem one_found {len at_ : Nat} {g : Int} {ps : List Int} (hp : sigB ps = true) (h0 : 0 < ps.length) (h : at_ + ps.length ≤ len) (g1 : 1 ≤ g) (g2 : g ≤ 9) (hc : clB ps g 0 = true) (hs : sigB (oneE len at_ g ps) = true) :
    mtC (oneE len at_ g ps) ps = 0 ∧ fGo ps 1 5 (oneE len at_ g ps) [] [] = ([(at_ : Int)], [g], 0) := by
  obtain ⟨l1, l2, l3, l4⟩ := lead_bd hp
  have hcl : 0 < g * (cor ps 0 - sideV ps) := by
    unfold clB at hc
    have := of_decide_eq_true hc
    rw [Int.mul_zero, Int.zero_mul, show (g.natAbs : Int) = g by omega] at this
    exact this
  have hside : sideV ps < cor ps 0 := by
    rcases Int.lt_or_le (sideV ps) (cor ps 0) with e | e
    · exact e
    · have e0 : cor ps 0 - sideV ps = 0 := by omega
      rw [e0, Int.mul_zero] at hcl
      omega
  have hE : 0 < cor ps 0 := by omega
  obtain ⟨X, hX⟩ : ∃ X, oneE len at_ g ps = X := ⟨_, rfl⟩
  have hXl : X.length = len := by rw [← hX]; exact oneE_len _ _ _ _
  have hXA : ∀ k, mtA X ps k = g * cor ps (if k ≤ at_ then at_ - k else k - at_) := fun k => by rw [← hX]; exact mtA_one h k
  have hXat : ∀ j, X.getD j 0 = if at_ ≤ j ∧ j < at_ + ps.length then g * ps.getD (j - at_) 0 else 0 := fun j => by rw [← hX]; exact oneE_at h j
  rw [hX] at hs ⊢
  have hmt : mtC X ps = 0 := by unfold mtC; rw [hs, hp, decide_eq_false (by omega), decide_eq_false (by omega)]; rfl
  have hN : mtN X ps = len - ps.length + 1 := by unfold mtN; rw [hXl]
  have hLl : (mtL X ps).length = len - ps.length + 1 := by rw [mtL_len, hXl]
  have hLat : ∀ k, k < len - ps.length + 1 → (mtL X ps).getD k 0 = mtA X ps k := fun k hk => by unfold mtL; rw [hN]; exact mtK_at _ _ hk
  have hatN : at_ < len - ps.length + 1 := by omega
  have hA0 : mtA X ps at_ = g * cor ps 0 := by rw [hXA, if_pos (Nat.le_refl _), Nat.sub_self]
  have hgE : 0 < g * cor ps 0 := Int.mul_pos (by omega) hE
  have hpk : fAt ps X = at_ := by
    unfold fAt
    refine pkV_only (by rw [hLl]; exact hatN) (fun j hj hne => ?_)
    rw [hLl] at hj
    rw [hLat j hj, hLat at_ hatN, hA0, hXA]
    obtain ⟨t, ht⟩ : ∃ t, (if j ≤ at_ then at_ - j else j - at_) = t := ⟨_, rfl⟩
    have ht0 : 0 < t := by
      rw [← ht]
      split <;> omega
    rw [ht]
    have hct : ((cor ps t).natAbs : Int) < cor ps 0 := by
      by_cases htm : t < ps.length
      · have := side_ge ps ht0 htm; omega
      · rw [cor_big (by omega)]; simp; omega
    rw [Int.natAbs_mul, Int.natAbs_mul, Int.natCast_mul, Int.natCast_mul, show (g.natAbs : Int) = g by omega]
    exact Int.mul_lt_mul_of_pos_left (by omega) (by omega)
  have hv : fVl ps X = g * cor ps 0 := by
    unfold fVl
    rw [hpk, hLat at_ hatN, hA0]
  have hgn : fGn ps 1 X = g := by
    rw [fGn_hi (by rw [hv]; omega), hv]
    exact nqv_mul g1 g2 hE l3
  have hZ : ∀ j, (fNx ps 1 X).getD j 0 = 0 := fun j => by
    unfold fNx
    rw [hpk, hgn, addE_at _ _ _ _ _ _ (by rw [hXl]; exact h), hXat]
    by_cases hj : at_ ≤ j ∧ j < at_ + ps.length
    · rw [if_pos hj, if_pos hj, Int.neg_mul]; omega
    · rw [if_neg hj, if_neg hj]
  have hZl : (fNx ps 1 X).length = len := by rw [fNx_len, hXl]
  have hZs : sigB (fNx ps 1 X) = true := sigB_mk (by rw [hZl, ← hXl]; exact (sigB_t hs).1) (fun i _ => by rw [hZ]; omega)
  refine ⟨hmt, ?_⟩
  rw [fGo_next (by rw [hgn]; omega) hZs, hpk, hgn]
  refine fGo_stop (fGn_lo ?_) 4 _ _
  have : fVl ps (fNx ps 1 X) = 0 := by
    unfold fVl
    obtain ⟨k, hk⟩ : ∃ k, fAt ps (fNx ps 1 X) = k := ⟨_, rfl⟩
    rw [hk]
    by_cases hkn : k < mtN (fNx ps 1 X) ps
    · unfold mtL
      rw [mtK_at _ _ hkn]
      unfold mtA dotT
      exact sumT_all0 (fun i _ => by rw [getD_drop, hZ, Int.mul_zero])
    · exact getD_outP (by unfold mtL; rw [mtK_len]; exact hkn)
  rw [this]
  decide
theorem fe_one {len at_ : Nat} {g : Int} {ps : List Int} (hp : sigB ps = true) (h0 : 0 < ps.length) (h : at_ + ps.length ≤ len) (g1 : 1 ≤ g) (g2 : g ≤ 9) (hc : clB ps g 0 = true) (hs : sigB (oneE len at_ g ps) = true) :
    feC (oneE len at_ g ps) ps 1 5 = 0 ∧ feD (oneE len at_ g ps) ps 1 5 = [(at_ : Int)] ∧ feG (oneE len at_ g ps) ps 1 5 = [g] := by
  obtain ⟨h1, h2⟩ := one_found hp h0 h g1 g2 hc hs
  exact fe_fin h1 rfl h2
end Go.Proofs.Ythfaejhiabdkbab
