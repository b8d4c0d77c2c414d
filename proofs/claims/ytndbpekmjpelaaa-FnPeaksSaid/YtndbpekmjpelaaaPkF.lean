/- What the law of peaks asks of the chosen ones: farther apart than the guard, over the threshold, the peak among them. -/
import Derived.Test.YtndbpekmjpelaaaPkS
namespace Go.Proofs.Ytndbpekmjpelaaa
open Go.ChangeShapes Go.WideShapes Go.ChangeAt Go.RowKit Num
set_option linter.unusedVariables false
theorem goP_keep {g : Int} {x : Int} : ∀ {S : List Nat} {C : List Int}, x ∈ C → x ∈ goP g C S
  | [], C, h => h
  | m :: S, C, h => by
    cases hn : nrB C g (m : Int)
    · rw [goP_take hn]; exact goP_keep (List.mem_append_left _ h)
    · rw [goP_skip hn]; exact goP_keep h
theorem goP_from {g : Int} {x : Int} : ∀ {S : List Nat} {C : List Int}, x ∈ goP g C S → x ∈ C ∨ ∃ i ∈ S, x = (i : Int)
  | [], C, h => .inl h
  | m :: S, C, h => by
    cases hn : nrB C g (m : Int)
    · rw [goP_take hn] at h
      rcases goP_from h with h' | ⟨i, hi, e⟩
      · rcases List.mem_append.1 h' with h2 | h2
        · exact .inl h2
        · exact .inr ⟨m, by simp, by simpa using h2⟩
      · exact .inr ⟨i, by simp [hi], e⟩
    · rw [goP_skip hn] at h
      rcases goP_from h with h' | ⟨i, hi, e⟩
      · exact .inl h'
      · exact .inr ⟨i, by simp [hi], e⟩
theorem nrB_false {C : List Int} {g i : Int} (h : nrB C g i = false) : ∀ c ∈ C, g < ((c - i).natAbs : Int) := fun c hc => by
  unfold nrB at h
  rw [List.any_eq_false] at h
  have := h c hc
  simp only [decide_eq_true_iff] at this
  omega
theorem goP_far {g : Int} : ∀ {S : List Nat} {C : List Int}, C.Pairwise (fun x y => g < ((x - y).natAbs : Int)) → (goP g C S).Pairwise (fun x y => g < ((x - y).natAbs : Int))
  | [], C, h => h
  | m :: S, C, h => by
    cases hn : nrB C g (m : Int)
    · rw [goP_take hn]
      exact goP_far (List.pairwise_append.2 ⟨h, by simp, fun a ha b hb => by simp at hb; subst hb; exact nrB_false hn a ha⟩)
    · rw [goP_skip hn]; exact goP_far h
theorem srtZ_perm (zs : List Int) : (srtZ zs).Perm zs := List.mergeSort_perm _ _
theorem srtZ_pair (zs : List Int) : (srtZ zs).Pairwise (· ≤ ·) := by
  have := List.pairwise_mergeSort (le := fun x y : Int => decide (x ≤ y)) (by intro a b c; simp; omega) (by intro a b; simp; omega) zs
  exact this.imp (by intro a b h; simpa using h)
theorem pair_getD {R : Int → Int → Prop} {L : List Int} (h : L.Pairwise R) {i : Nat} (h0 : 0 < i) (hi : i < L.length) : R (L.getD (i - 1) 0) (L.getD i 0) := by
  have := List.pairwise_iff_getElem.1 h (i - 1) i (by omega) hi (by omega)
  rwa [List.getD_eq_getElem?_getD, List.getD_eq_getElem?_getD, List.getElem?_eq_getElem hi, List.getElem?_eq_getElem (by omega : i - 1 < L.length)]
theorem pk_gap {zs : List Int} {th g : Int} {i : Nat} (h0 : 0 < i) (hi : i < (poS zs th g).length) : g < (poS zs th g).getD i 0 - (poS zs th g).getD (i - 1) 0 := by
  have e : poS zs th g = srtZ (goP g [] (cndS zs th)) := rfl
  have h1 : (poS zs th g).Pairwise (fun x y => g < ((x - y).natAbs : Int)) := by
    rw [e]
    exact ((srtZ_perm _).symm.pairwise_iff (R := fun x y => g < ((x - y).natAbs : Int)) (fun {x y} h => by omega)).1 (goP_far List.Pairwise.nil)
  have h2 : (poS zs th g).Pairwise (· ≤ ·) := by rw [e]; exact srtZ_pair _
  have a1 := pair_getD h1 h0 hi
  have a2 := pair_getD h2 h0 hi
  omega
theorem pk_in {zs : List Int} {th g : Int} {i : Nat} (hi : i < (poS zs th g).length) : ∃ j : Nat, (poS zs th g).getD i 0 = (j : Int) ∧ j < zs.length ∧ th ≤ ((zs.getD j 0).natAbs : Int) := by
  have hm : (poS zs th g).getD i 0 ∈ poS zs th g := by
    rw [List.getD_eq_getElem?_getD, List.getElem?_eq_getElem hi]
    exact List.getElem_mem hi
  have hm2 : (poS zs th g).getD i 0 ∈ goP g [] (cndS zs th) := (srtZ_perm _).mem_iff.1 hm
  rcases goP_from hm2 with h | ⟨j, hj, e⟩
  · simp at h
  · have := (cndS_mem zs th j).1 hj
    unfold cnd at this
    simp only [Bool.and_eq_true, decide_eq_true_iff] at this
    exact ⟨j, e, this.1, this.2⟩
theorem pk_top {zs : List Int} {th g : Int} (h0 : 0 < zs.length) (ht : th ≤ ((zs.getD (pkV zs) 0).natAbs : Int)) : ((pkV zs : Nat) : Int) ∈ poS zs th g := by
  refine (srtZ_perm _).mem_iff.2 ?_
  have hlt := pkV_lt h0
  have hS : pkV zs ∈ cndS zs th := (cndS_mem zs th _).2 (by unfold cnd aV; rw [decide_eq_true hlt, decide_eq_true ht]; rfl)
  have hp : (cndS zs th).Pairwise (fun x y => ltP zs y x = false) := srtP_pair zs _
  cases hc : cndS zs th with
  | nil => rw [hc] at hS; cases hS
  | cons m S =>
    have hm : m = pkV zs := by
      rcases List.mem_cons.1 (by rw [hc] at hS; exact hS) with e | e
      · exact e.symm
      · rw [hc] at hp
        have h1 := (List.pairwise_cons.1 hp).1 _ e
        have hml : m < zs.length := by
          have := (cndS_mem zs th m).1 (by rw [hc]; simp)
          unfold cnd at this
          simp only [Bool.and_eq_true, decide_eq_true_iff] at this
          exact this.1
        rcases Nat.lt_trichotomy m (pkV zs) with h | h | h
        · have h2 := pkV_first h
          have : ltP zs (pkV zs) m = true := (ltP_iff _ _ _).2 (.inl h2)
          rw [h1] at this; cases this
        · exact h
        · have h2 := pkV_ge hml
          have : ltP zs (pkV zs) m = true := (ltP_iff _ _ _).2 (by unfold aV; omega)
          rw [h1] at this; cases this
    subst hm
    rw [goP_take (show nrB [] g _ = false from rfl)]
    exact goP_keep (by simp)
end Go.Proofs.Ytndbpekmjpelaaa
