/- What both sides compute of chosen peaks: the candidates in the order in which they are chosen, those that stay. -/
import Derived.Test.YtndbpekmjpelaaaMfP
namespace Go.Proofs.Ytndbpekmjpelaaa
open Go.ChangeShapes Go.WideShapes Go.ChangeAt Go.RowKit
set_option linter.unusedVariables false
/-- the absolute value of an element -/
def aV (zs : List Int) (i : Nat) : Int := ((zs.getD i 0).natAbs : Int)
/-- how two indices compare -/
def cfP (zs : List Int) (i j : Nat) : Int := sfV (i : Int) (zs.getD i 0) (j : Int) (zs.getD j 0)
def ltP (zs : List Int) (i j : Nat) : Bool := decide (cfP zs i j < 0)
theorem cfP_iff (zs : List Int) (i j : Nat) : cfP zs i j < 0 ↔ aV zs j < aV zs i ∨ (aV zs i = aV zs j ∧ i < j) := by
  unfold cfP aV
  by_cases h1 : ((zs.getD j 0).natAbs : Int) < ((zs.getD i 0).natAbs : Int)
  · rw [sfV_up h1]
    exact ⟨fun _ => Or.inl h1, fun _ => by decide⟩
  · by_cases h2 : ((zs.getD i 0).natAbs : Int) < ((zs.getD j 0).natAbs : Int)
    · rw [sfV_down h2]
      constructor
      · intro h; omega
      · intro h; omega
    · have e : ((zs.getD i 0).natAbs : Int) = ((zs.getD j 0).natAbs : Int) := by omega
      rw [sfV_same e]
      unfold cmpV
      by_cases h3 : (i : Int) < (j : Int)
      · rw [if_pos h3]; omega
      · rw [if_neg h3]
        split <;> omega
theorem ltP_iff (zs : List Int) (i j : Nat) : ltP zs i j = true ↔ aV zs j < aV zs i ∨ (aV zs i = aV zs j ∧ i < j) := by
  unfold ltP; rw [decide_eq_true_iff]; exact cfP_iff zs i j
theorem ltP_irr (zs : List Int) (i : Nat) : ltP zs i i = false := by
  cases h : ltP zs i i
  · rfl
  · rw [ltP_iff] at h; omega
theorem ltP_trans (zs : List Int) (i j k : Nat) (h1 : ltP zs i j = true) (h2 : ltP zs j k = true) : ltP zs i k = true := by
  rw [ltP_iff] at *; omega
theorem ltP_tot (zs : List Int) (i j : Nat) (h1 : ltP zs i j = false) (h2 : ltP zs j i = false) : i = j := by
  have a : ¬ (aV zs j < aV zs i ∨ (aV zs i = aV zs j ∧ i < j)) := fun h => by rw [← ltP_iff] at h; rw [h] at h1; cases h1
  have b : ¬ (aV zs i < aV zs j ∨ (aV zs j = aV zs i ∧ j < i)) := fun h => by rw [← ltP_iff] at h; rw [h] at h2; cases h2
  omega
theorem ltP_asym (zs : List Int) (i j : Nat) (h : ltP zs i j = true) : ltP zs j i = false := by
  cases h2 : ltP zs j i
  · rfl
  · rw [ltP_iff] at h h2; omega
/-- the candidates, in their order -/
def cnd (zs : List Int) (th : Int) (i : Nat) : Bool := decide (i < zs.length) && decide (th ≤ aV zs i)
def srtP (zs : List Int) (L : List Nat) : List Nat := L.mergeSort fun x y => !ltP zs y x
theorem srtP_pair (zs : List Int) (L : List Nat) : (srtP zs L).Pairwise (fun x y => ltP zs y x = false) := by
  have := List.pairwise_mergeSort (le := fun x y => !ltP zs y x) (by
    intro a b c h1 h2
    simp only [Bool.not_eq_true'] at h1 h2 ⊢
    cases h : ltP zs c a
    · rfl
    · by_cases e : b = c
      · subst e; rw [h1] at h; cases h
      · cases hbc : ltP zs b c
        · exact absurd (ltP_tot zs b c hbc h2) e
        · have := ltP_trans zs b c a hbc h
          rw [h1] at this; cases this) (by
    intro a b
    simp only [Bool.or_eq_true, Bool.not_eq_true']
    cases h : ltP zs b a
    · exact Or.inl rfl
    · exact Or.inr (ltP_asym zs b a h)) L
  exact this.imp (by intro a b h; simpa using h)
theorem srtP_mem (zs : List Int) (L : List Nat) (i : Nat) : i ∈ srtP zs L ↔ i ∈ L := (List.mergeSort_perm _ _).mem_iff
theorem srtP_perm {zs : List Int} {L M : List Nat} (h : L.Perm M) : srtP zs L = srtP zs M :=
  List.Perm.eq_of_pairwise (le := fun x y => ltP zs y x = false) (fun a b _ _ h1 h2 => ltP_tot zs a b h2 h1) (srtP_pair zs L) (srtP_pair zs M)
    (((List.mergeSort_perm _ _).trans h).trans (List.mergeSort_perm _ _).symm)
def cndL (zs : List Int) (th : Int) : List Nat := (List.range zs.length).filter (fun i => decide (th ≤ aV zs i))
theorem cndL_mem (zs : List Int) (th : Int) (i : Nat) : i ∈ cndL zs th ↔ cnd zs th i = true := by
  unfold cndL cnd
  simp [List.mem_filter]
theorem cndL_nodup (zs : List Int) (th : Int) : (cndL zs th).Nodup := (List.nodup_range).filter _
def cndS (zs : List Int) (th : Int) : List Nat := srtP zs (cndL zs th)
theorem cndS_mem (zs : List Int) (th : Int) (i : Nat) : i ∈ cndS zs th ↔ cnd zs th i = true := by rw [cndS, srtP_mem, cndL_mem]
theorem cndS_len (zs : List Int) (th : Int) : (cndS zs th).length ≤ zs.length := by
  unfold cndS srtP
  rw [List.length_mergeSort]
  exact Nat.le_trans (List.length_filter_le _ _) (by simp)
/-- near a chosen one -/
def nrB (C : List Int) (g i : Int) : Bool := C.any fun c => decide (((c - i).natAbs : Int) ≤ g)
theorem nrB_snoc (C : List Int) (c g i : Int) : nrB (C ++ [c]) g i = (nrB C g i || decide (((c - i).natAbs : Int) ≤ g)) := by unfold nrB; simp
def okP (zs : List Int) (th g : Int) (C : List Int) (i : Nat) : Bool := cnd zs th i && !nrB C g (i : Int)
/-- what stays of candidates -/
def goP (g : Int) : List Int → List Nat → List Int
  | C, [] => C
  | C, m :: S => if nrB C g (m : Int) then goP g C S else goP g (C ++ [(m : Int)]) S
theorem goP_nil (g : Int) (C : List Int) : goP g C [] = C := rfl
theorem goP_skip {g : Int} {C : List Int} {m : Nat} (h : nrB C g (m : Int) = true) (S : List Nat) : goP g C (m :: S) = goP g C S := by
  conv => lhs; unfold goP
  rw [h]; rfl
theorem goP_take {g : Int} {C : List Int} {m : Nat} (h : nrB C g (m : Int) = false) (S : List Nat) : goP g C (m :: S) = goP g (C ++ [(m : Int)]) S := by
  conv => lhs; unfold goP
  rw [h]; rfl
theorem goP_len (g : Int) : ∀ (S : List Nat) (C : List Int), (goP g C S).length ≤ C.length + S.length
  | [], C => Nat.le_refl _
  | m :: S, C => by
    cases h : nrB C g (m : Int)
    · rw [goP_take h]
      have := goP_len g S (C ++ [(m : Int)])
      simp only [List.length_append, List.length_cons, List.length_nil] at this ⊢
      omega
    · rw [goP_skip h]
      have := goP_len g S C
      simp only [List.length_cons]
      omega
/-- where none is left -/
theorem goP_done {g : Int} : ∀ {T : List Nat} {C : List Int}, (∀ i ∈ T, nrB C g (i : Int) = true) → goP g C T = C
  | [], C, _ => rfl
  | m :: T, C, h => by rw [goP_skip (h m (by simp)), goP_done (fun i hi => h i (by simp [hi]))]
/-- the first one that is left -/
theorem goP_first {g : Int} {b : Nat} : ∀ {T : List Nat} {C : List Int}, b ∈ T → nrB C g (b : Int) = false → T.Pairwise (fun x y => x ≠ y) → (∀ i ∈ T, i ≠ b → nrB C g (i : Int) = false → ∀ T1 T2, T = T1 ++ i :: T2 → b ∈ T1) →
    ∃ T2, goP g C T = goP g (C ++ [(b : Int)]) T2 ∧ T2.length < T.length ∧ (∀ i ∈ T, i ≠ b → nrB C g (i : Int) = false → i ∈ T2) ∧ (∃ T1, T = T1 ++ b :: T2)
  | [], C, hb, _, _, _ => by cases hb
  | m :: T, C, hb, hn, hp, hord => by
    by_cases e : m = b
    · subst e
      refine ⟨T, goP_take hn T, by simp, fun i hi hne _ => ?_, [], rfl⟩
      rcases List.mem_cons.1 hi with e | e
      · exact absurd e hne
      · exact e
    · have hbT : b ∈ T := by
        rcases List.mem_cons.1 hb with e' | e'
        · exact absurd e'.symm e
        · exact e'
      have hm : nrB C g (m : Int) = true := by
        cases hh : nrB C g (m : Int)
        · have := hord m (by simp) e hh [] T rfl
          cases this
        · rfl
      obtain ⟨T2, h1, h2, h3, T1, h4⟩ := goP_first hbT hn (List.pairwise_cons.1 hp).2 (fun i hi hne hni A B hAB => by
        have := hord i (by simp [hi]) hne hni (m :: A) B (by rw [hAB]; rfl)
        rcases List.mem_cons.1 this with e' | e'
        · exact absurd e'.symm e
        · exact e')
      refine ⟨T2, by rw [goP_skip hm, h1], by simp; omega, fun i hi hne hni => ?_, m :: T1, by rw [h4]; rfl⟩
      rcases List.mem_cons.1 hi with e' | e'
      · subst e'; rw [hm] at hni; cases hni
      · exact h3 i e' hne hni
/-- the model's best one among the first k -/
def bsT (zs : List Int) (th g : Int) (C : List Int) : Nat → Int
  | 0 => -1
  | k + 1 => if (decide (th ≤ aV zs k) && !nrB C g (k : Int)) && (decide (bsT zs th g C k < 0) || decide (aV zs (bsT zs th g C k).toNat < aV zs k)) then (k : Int) else bsT zs th g C k
theorem bsT_succ (zs : List Int) (th g : Int) (C : List Int) (k : Nat) : bsT zs th g C (k + 1) = if (decide (th ≤ aV zs k) && !nrB C g (k : Int)) && (decide (bsT zs th g C k < 0) || decide (aV zs (bsT zs th g C k).toNat < aV zs k)) then (k : Int) else bsT zs th g C k := rfl
theorem bsT_rng (zs : List Int) (th g : Int) (C : List Int) : ∀ k : Nat, -1 ≤ bsT zs th g C k ∧ bsT zs th g C k < k
  | 0 => by unfold bsT; omega
  | k + 1 => by
    have := bsT_rng zs th g C k
    rw [bsT_succ]
    split <;> omega
theorem bsT_spec (zs : List Int) (th g : Int) (C : List Int) : ∀ k : Nat,
    (bsT zs th g C k < 0 → ∀ i, i < k → (decide (th ≤ aV zs i) && !nrB C g (i : Int)) = false) ∧
    (0 ≤ bsT zs th g C k → (decide (th ≤ aV zs (bsT zs th g C k).toNat) && !nrB C g (bsT zs th g C k)) = true ∧ ∀ i, i < k → (decide (th ≤ aV zs i) && !nrB C g (i : Int)) = true → (i : Int) = bsT zs th g C k ∨ ltP zs (bsT zs th g C k).toNat i = true)
  | 0 => ⟨fun _ i hi => absurd hi (Nat.not_lt_zero _), fun h => by unfold bsT at h; omega⟩
  | k + 1 => by
    obtain ⟨h1, h2⟩ := bsT_spec zs th g C k
    have hr := bsT_rng zs th g C k
    rw [bsT_succ]
    obtain ⟨b, hb⟩ : ∃ b, bsT zs th g C k = b := ⟨_, rfl⟩
    rw [hb] at h1 h2 hr ⊢
    cases hok : (decide (th ≤ aV zs k) && !nrB C g (k : Int))
    · rw [Bool.false_and]
      refine ⟨fun hn i hi => ?_, fun hn => ?_⟩
      · simp only [Bool.false_eq_true, if_false] at hn
        by_cases e : i = k
        · subst e; exact hok
        · exact h1 hn i (by omega)
      · simp only [Bool.false_eq_true, if_false] at hn ⊢
        refine ⟨(h2 hn).1, fun i hi hoki => ?_⟩
        by_cases e : i = k
        · subst e; rw [hok] at hoki; cases hoki
        · exact (h2 hn).2 i (by omega) hoki
    · rw [Bool.true_and]
      by_cases hc : b < 0 ∨ aV zs b.toNat < aV zs k
      · have hc' : (decide (b < 0) || decide (aV zs b.toNat < aV zs k)) = true := by
          rcases hc with e | e
          · rw [decide_eq_true e]; rfl
          · rw [decide_eq_true e, Bool.or_true]
        rw [hc', if_pos rfl]
        refine ⟨fun hn => by omega, fun _ => ?_⟩
        rw [Int.toNat_natCast]
        refine ⟨hok, fun i hi hoki => ?_⟩
        by_cases e : i = k
        · exact Or.inl (by omega)
        · right
          rw [ltP_iff]
          by_cases hb0 : b < 0
          · rw [h1 hb0 i (by omega)] at hoki; cases hoki
          · have hlt : aV zs b.toNat < aV zs k := by
              rcases hc with e' | e'
              · exact absurd e' hb0
              · exact e'
            rcases (h2 (by omega)).2 i (by omega) hoki with e' | e'
            · left; rw [← e', Int.toNat_natCast] at hlt; exact hlt
            · rw [ltP_iff] at e'; omega
      · have hc' : (decide (b < 0) || decide (aV zs b.toNat < aV zs k)) = false := by
          rw [decide_eq_false (by omega), decide_eq_false (by omega)]; rfl
        rw [hc', if_neg (by decide)]
        refine ⟨fun hn => by omega, fun hn => ⟨(h2 hn).1, fun i hi hoki => ?_⟩⟩
        by_cases e : i = k
        · subst e
          right
          rw [ltP_iff]
          have : b.toNat < i := by omega
          omega
        · exact (h2 hn).2 i (by omega) hoki
/-- one round of the model -/
theorem bsT_step {zs : List Int} {th g : Int} {C : List Int} {T : List Nat} {RES : List Int} (g0 : 0 ≤ g) (hr : goP g C T = RES) (hT : ∀ i ∈ T, cnd zs th i = true) (hs : T.Pairwise (fun x y => ltP zs y x = false)) (hd : T.Pairwise (fun x y => x ≠ y))
    (hall : ∀ i, okP zs th g C i = true → i ∈ T) :
    (bsT zs th g C zs.length < 0 → RES = C) ∧
    (0 ≤ bsT zs th g C zs.length → ∃ T2, goP g (C ++ [bsT zs th g C zs.length]) T2 = RES ∧ T2.length < T.length ∧ (∀ i ∈ T2, cnd zs th i = true) ∧ T2.Pairwise (fun x y => ltP zs y x = false) ∧ T2.Pairwise (fun x y => x ≠ y) ∧ ∀ i, okP zs th g (C ++ [bsT zs th g C zs.length]) i = true → i ∈ T2) := by
  obtain ⟨h1, h2⟩ := bsT_spec zs th g C zs.length
  have hrg := bsT_rng zs th g C zs.length
  obtain ⟨b, hb⟩ : ∃ b, bsT zs th g C zs.length = b := ⟨_, rfl⟩
  rw [hb] at h1 h2 hrg ⊢
  have hcnd : ∀ i, i ∈ T → i < zs.length ∧ decide (th ≤ aV zs i) = true := fun i hi => by
    have := hT i hi
    unfold cnd at this
    rw [Bool.and_eq_true, decide_eq_true_iff] at this
    exact this
  refine ⟨fun hn => ?_, fun hn => ?_⟩
  · rw [← hr]
    refine goP_done (fun i hi => ?_)
    have := h1 hn i (hcnd i hi).1
    rw [(hcnd i hi).2, Bool.true_and] at this
    simpa using this
  · obtain ⟨k, rfl⟩ : ∃ k : Nat, b = (k : Int) := ⟨b.toNat, by omega⟩
    obtain ⟨h3, h4⟩ := h2 hn
    rw [Int.toNat_natCast] at h3 h4
    rw [Bool.and_eq_true] at h3
    have hnk : nrB C g (k : Int) = false := by simpa using h3.2
    have hck : cnd zs th k = true := by unfold cnd; rw [h3.1, decide_eq_true (show k < zs.length by omega)]; rfl
    have hkT : k ∈ T := hall k (by unfold okP; rw [hck, hnk]; rfl)
    obtain ⟨T2, e1, e2, e3, T1, e4⟩ := goP_first hkT hnk hd (fun i hi hne hni A B hAB => by
      have hlt := h4 i (hcnd i hi).1 (by rw [(hcnd i hi).2, hni]; rfl)
      rcases hlt with e | e
      · exact absurd (by omega) hne
      · rw [hAB] at hkT hs
        rcases List.mem_append.1 hkT with h | h
        · exact h
        · rcases List.mem_cons.1 h with h | h
          · exact absurd h.symm hne
          · have := (List.pairwise_cons.1 (List.pairwise_append.1 hs).2.1).1 k h
            rw [e] at this; cases this)
    have hsub : ∀ i ∈ T2, i ∈ T := fun i hi => by rw [e4]; simp [hi]
    have hsl : T2.Sublist T := by rw [e4]; exact (List.sublist_cons_self k T2).trans (List.sublist_append_right T1 _)
    refine ⟨T2, by rw [← e1, hr], e2, fun i hi => hT i (hsub i hi), hs.sublist hsl, hd.sublist hsl, fun i hi => ?_⟩
    unfold okP at hi
    rw [nrB_snoc, Bool.and_eq_true] at hi
    have hi2 : nrB C g (i : Int) = false ∧ decide ((((k : Int) - (i : Int)).natAbs : Int) ≤ g) = false := by
      have := hi.2
      simpa [Bool.or_eq_false_iff] using this
    have hne : i ≠ k := fun e => by
      subst e
      have := hi2.2
      rw [decide_eq_false_iff_not] at this
      exact this (by simp; omega)
    exact e3 i (hall i (by unfold okP; rw [hi.1, hi2.1]; rfl)) hne hi2.1
/-- what PeaksOver tells -/
def poC (zs : List Int) (th g : Int) : Int := if trcB zs then (if hasB 1 1000000000000 th && hasB 0 400 g then 0 else 2) else 1
def poS (zs : List Int) (th g : Int) : List Int := (goP g [] (cndS zs th)).mergeSort fun x y => decide (x ≤ y)
def poL (zs : List Int) (th g : Int) : List Int := if poC zs th g = 0 then poS zs th g else []
theorem poL_len (zs : List Int) (th g : Int) : (poL zs th g).length ≤ 400 := by
  unfold poL
  split
  · rename_i h
    have h4 : zs.length ≤ 400 := by
      unfold poC at h
      split at h
      · rename_i hs; exact (trcB_t hs).1
      · omega
    unfold poS
    rw [List.length_mergeSort]
    have h1 := goP_len g (cndS zs th) []
    have h2 := cndS_len zs th
    simp only [List.length_nil] at h1
    omega
  · simp
end Go.Proofs.Ytndbpekmjpelaaa
