/- What the functions of pairings compute, and what the laws on them say of these numbers. -/
import Derived.Test.YtlahgdhofakinaaRwA
import Derived.Test.YtlahgdhofakinaaBrM
namespace Go.Proofs.Ytlahgdhofakinaa
open Num
set_option linter.unusedVariables false
set_option linter.unusedSimpArgs false
/-- an entry; valid costs -/
def eAt (zss : List (List Int)) (i k : Nat) : Int := (gR zss i).getD k 0
def AcP (zss : List (List Int)) : Prop := zss.length ≤ 6 ∧ ∀ j, j < zss.length → (gR zss j).length = (gR zss 0).length ∧ (gR zss j).length ≤ 6 ∧ ∀ k, k < (gR zss j).length → -1 ≤ eAt zss j k ∧ eAt zss j k ≤ 1000000000000
instance (zss : List (List Int)) : Decidable (AcP zss) := by unfold AcP; infer_instance
def acB (zss : List (List Int)) : Bool := decide (AcP zss)
theorem acB_t {zss : List (List Int)} (h : acB zss = true) : AcP zss := of_decide_eq_true h
theorem acB_f {zss : List (List Int)} (h : ¬ AcP zss) : acB zss = false := decide_eq_false h
/-- a pairing -/
def pI (ps : List Int) (i : Nat) : Int := ps.getD i 0
def PrO (zss : List (List Int)) (ps : List Int) (i : Nat) : Prop := -1 ≤ pI ps i ∧ pI ps i ≤ ((gR zss i).length : Int) - 1 ∧ (0 ≤ pI ps i → 0 ≤ eAt zss i (pI ps i).toNat ∧ ¬ pI ps i ∈ ps.take i)
instance (zss : List (List Int)) (ps : List Int) (i : Nat) : Decidable (PrO zss ps i) := by unfold PrO; infer_instance
def PrE (zss : List (List Int)) (ps : List Int) : Prop := ∀ i, i < ps.length → PrO zss ps i
instance (zss : List (List Int)) (ps : List Int) : Decidable (PrE zss ps) := by unfold PrE; infer_instance
def prB (zss : List (List Int)) (ps : List Int) : Bool := decide (ps.length = zss.length ∧ PrE zss ps)
theorem prB_t {zss : List (List Int)} {ps : List Int} (h : prB zss ps = true) : ps.length = zss.length ∧ PrE zss ps := of_decide_eq_true h
theorem pI_snoc_lt {ps : List Int} {k : Int} {i : Nat} (h : i < ps.length) : pI (ps ++ [k]) i = pI ps i := by
  unfold pI
  rw [List.getD_eq_getElem?_getD, List.getElem?_append_left h, List.getD_eq_getElem?_getD]
theorem pI_snoc (ps : List Int) (k : Int) : pI (ps ++ [k]) ps.length = k := by
  unfold pI
  rw [List.getD_eq_getElem?_getD, List.getElem?_append_right (Nat.le_refl _)]
  simp
theorem PrO_snoc {zss : List (List Int)} {ps : List Int} {k : Int} {i : Nat} (h : i < ps.length) : PrO zss (ps ++ [k]) i ↔ PrO zss ps i := by
  unfold PrO
  rw [pI_snoc_lt h, List.take_append_of_le_length (by omega)]
theorem PrE_snoc {zss : List (List Int)} {ps : List Int} {k : Int} : PrE zss (ps ++ [k]) ↔ PrE zss ps ∧ -1 ≤ k ∧ k ≤ ((gR zss ps.length).length : Int) - 1 ∧ (0 ≤ k → 0 ≤ eAt zss ps.length k.toNat ∧ ¬ k ∈ ps) := by
  unfold PrE
  constructor
  · intro h
    refine ⟨fun i hi => (PrO_snoc hi).1 (h i (by simp; omega)), ?_⟩
    have := h ps.length (by simp)
    unfold PrO at this
    rw [pI_snoc, List.take_append_of_le_length (Nat.le_refl _), List.take_length] at this
    exact this
  · rintro ⟨h, g⟩ i hi
    by_cases hl : i < ps.length
    · exact (PrO_snoc hl).2 (h i hl)
    · obtain rfl : i = ps.length := by simp at hi; omega
      unfold PrO
      rw [pI_snoc, List.take_append_of_le_length (Nat.le_refl _), List.take_length]
      exact g
theorem PrE_pre {zss : List (List Int)} {ps qs : List Int} (h : PrE zss (ps ++ qs)) : PrE zss ps := fun i hi => by
  have := h i (by simp; omega)
  unfold PrO pI at this ⊢
  rw [List.getD_eq_getElem?_getD, List.getElem?_append_left hi, ← List.getD_eq_getElem?_getD, List.take_append_of_le_length (by omega)] at this
  exact this
/-- the sum of the first k rows of a pairing -/
def smA (zss : List (List Int)) (miss : Int) (ps : List Int) (k : Nat) : Int := if pI ps k < 0 then miss else eAt zss k (pI ps k).toNat
def smT (zss : List (List Int)) (miss : Int) (ps : List Int) : Nat → Int
  | 0 => 0
  | k + 1 => smT zss miss ps k + smA zss miss ps k
def smV (zss : List (List Int)) (miss : Int) (ps : List Int) : Int := smT zss miss ps ps.length
theorem smA_bd {zss : List (List Int)} {miss : Int} {ps : List Int} (ha : AcP zss) (hp : PrE zss ps) (hl : ps.length ≤ zss.length) (m0 : 0 ≤ miss) (m1 : miss ≤ 1000000000000) {k : Nat} (hk : k < ps.length) :
    0 ≤ smA zss miss ps k ∧ smA zss miss ps k ≤ 1000000000000 := by
  obtain ⟨h1, h2, h3⟩ := hp k hk
  unfold smA
  split
  · omega
  · have h4 := (h3 (by omega)).1
    obtain ⟨-, -, h5⟩ := ha.2 k (by omega)
    have := h5 (pI ps k).toNat (by omega)
    omega
theorem smT_bd {zss : List (List Int)} {miss : Int} {ps : List Int} (ha : AcP zss) (hp : PrE zss ps) (hl : ps.length ≤ zss.length) (m0 : 0 ≤ miss) (m1 : miss ≤ 1000000000000) : ∀ k : Nat, k ≤ ps.length → 0 ≤ smT zss miss ps k ∧ smT zss miss ps k ≤ 1000000000000 * (k : Int)
  | 0, _ => by simp [smT]
  | k + 1, hk => by
    have h1 := smT_bd ha hp hl m0 m1 k (by omega)
    have h2 := smA_bd ha hp hl m0 m1 (k := k) (by omega)
    simp only [smT]
    omega
/-- all pairings that begin with ps, when r rows are left -/
def kOk (zss : List (List Int)) (ps : List Int) (k : Int) : Prop := k < 0 ∨ (0 ≤ eAt zss ps.length k.toNat ∧ ¬ k ∈ ps)
instance (zss : List (List Int)) (ps : List Int) (k : Int) : Decidable (kOk zss ps k) := by unfold kOk; infer_instance
def allP (zss : List (List Int)) : Nat → List Int → List (List Int)
  | 0, ps => [ps]
  | r + 1, ps => (List.range ((gR zss ps.length).length + 1)).flatMap (fun (j : Nat) => if kOk zss ps ((j : Int) - 1) then allP zss r (ps ++ [(j : Int) - 1]) else [])
theorem allP_mem {zss : List (List Int)} : ∀ (r : Nat) (ps q : List Int), PrE zss ps → (q ∈ allP zss r ps ↔ ∃ t : List Int, t.length = r ∧ q = ps ++ t ∧ PrE zss q)
  | 0, ps, q, hp => by
    unfold allP
    rw [List.mem_singleton]
    constructor
    · rintro rfl; exact ⟨[], rfl, by simp, hp⟩
    · rintro ⟨t, ht, rfl, -⟩
      rw [List.length_eq_zero_iff.1 ht, List.append_nil]
  | r + 1, ps, q, hp => by
    unfold allP
    rw [List.mem_flatMap]
    constructor
    · rintro ⟨j, hj, hq⟩
      rw [List.mem_range] at hj
      split at hq
      · rename_i hk
        have hp2 : PrE zss (ps ++ [(j : Int) - 1]) := PrE_snoc.2 ⟨hp, by omega, by omega, fun h0 => by
          rcases hk with h | h
          · omega
          · exact h⟩
        obtain ⟨t, ht, rfl, h⟩ := (allP_mem r _ q hp2).1 hq
        exact ⟨((j : Int) - 1) :: t, by simp [ht], by simp, h⟩
      · simp at hq
    · rintro ⟨t, ht, rfl, h⟩
      match t, ht with
      | k :: t, ht =>
        have hp2 : PrE zss (ps ++ [k]) := PrE_pre (qs := t) (by simpa using h)
        obtain ⟨-, k0, k1, k2⟩ := PrE_snoc.1 hp2
        refine ⟨(k + 1).toNat, by rw [List.mem_range]; omega, ?_⟩
        rw [show (((k + 1).toNat : Nat) : Int) - 1 = k by omega]
        have hk : kOk zss ps k := by
          unfold kOk
          by_cases h0 : k < 0
          · exact Or.inl h0
          · exact Or.inr (k2 (by omega))
        rw [if_pos hk]
        exact (allP_mem r _ _ hp2).2 ⟨t, by simpa using ht, by simp, h⟩
theorem PrE_nil (zss : List (List Int)) : PrE zss [] := fun i hi => by simp at hi
theorem allP_pr {zss : List (List Int)} {q : List Int} : q ∈ allP zss zss.length [] ↔ prB zss q = true := by
  rw [allP_mem _ _ _ (PrE_nil zss)]
  unfold prB
  rw [decide_eq_true_eq]
  constructor
  · rintro ⟨t, ht, rfl, h⟩; exact ⟨by simpa using ht, h⟩
  · rintro ⟨h, g⟩; exact ⟨q, h, rfl, g⟩
/-- how many there are at most -/
def pow7 : Nat → Nat
  | 0 => 1
  | n + 1 => 7 * pow7 n
theorem flat_le {β : Type} {f : Nat → List β} {n M : Nat} (h : ∀ j, j < n → (f j).length ≤ M) : ((List.range n).flatMap f).length ≤ n * M := by
  induction n with
  | zero => simp
  | succ n ih =>
    rw [List.range_succ, List.flatMap_append, List.length_append, Nat.succ_mul]
    have a := ih (fun j hj => h j (by omega))
    have b := h n (by omega)
    simp only [List.flatMap_cons, List.flatMap_nil, List.append_nil]
    omega
theorem allP_le {zss : List (List Int)} (hw : ∀ j, (gR zss j).length ≤ 6) : ∀ (r : Nat) (ps : List Int), (allP zss r ps).length ≤ pow7 r
  | 0, ps => Nat.le_refl _
  | r + 1, ps => by
    unfold allP pow7
    refine Nat.le_trans (flat_le (M := pow7 r) (fun j _ => ?_)) (Nat.mul_le_mul_right (pow7 r) (show (gR zss ps.length).length + 1 ≤ 7 by have := hw ps.length; omega))
    split
    · exact allP_le hw r _
    · simp
/-- those of the first columns only -/
def allK (zss : List (List Int)) (r : Nat) (ps : List Int) (n : Nat) : List (List Int) := (List.range n).flatMap (fun (j : Nat) => if kOk zss ps ((j : Int) - 1) then allP zss r (ps ++ [(j : Int) - 1]) else [])
theorem allK_succ (zss : List (List Int)) (r : Nat) (ps : List Int) (n : Nat) : allK zss r ps (n + 1) = allK zss r ps n ++ (if kOk zss ps ((n : Int) - 1) then allP zss r (ps ++ [(n : Int) - 1]) else []) := by
  unfold allK
  rw [List.range_succ, List.flatMap_append]
  simp only [List.flatMap_cons, List.flatMap_nil, List.append_nil]
/-- the first of the least by a measure -/
def bI (f : List Int → Int) (L : List (List Int)) : Nat → Nat
  | 0 => 0
  | i + 1 => if f (gR L (i + 1)) < f (gR L (bI f L i)) then i + 1 else bI f L i
theorem bI_le (f : List Int → Int) (L : List (List Int)) : ∀ i, bI f L i ≤ i ∧ ∀ j, j ≤ i → f (gR L (bI f L i)) ≤ f (gR L j)
  | 0 => ⟨Nat.le_refl _, fun j hj => by
      obtain rfl : j = 0 := by omega
      exact Int.le_refl _⟩
  | i + 1 => by
    obtain ⟨h1, h2⟩ := bI_le f L i
    unfold bI
    split
    · rename_i h
      refine ⟨Nat.le_refl _, fun j hj => ?_⟩
      by_cases e : j ≤ i
      · have := h2 j e; omega
      · obtain rfl : j = i + 1 := by omega
        exact Int.le_refl _
    · rename_i h
      refine ⟨by omega, fun j hj => ?_⟩
      by_cases e : j ≤ i
      · exact h2 j e
      · obtain rfl : j = i + 1 := by omega
        omega
def bstP (zss : List (List Int)) (miss : Int) : List Int := gR (allP zss zss.length []) (bI (smV zss miss) (allP zss zss.length []) ((allP zss zss.length []).length - 1))
theorem allP_pos (zss : List (List Int)) : ∀ (r : Nat) (ps : List Int), 0 < (allP zss r ps).length
  | 0, ps => by simp [allP]
  | r + 1, ps => by
    unfold allP
    rw [show (gR zss ps.length).length + 1 = 1 + (gR zss ps.length).length by omega, List.range_add, List.flatMap_append, List.length_append]
    have h : kOk zss ps (((0 : Nat) : Int) - 1) := Or.inl (by omega)
    have e : ((List.range 1).flatMap (fun (j : Nat) => if kOk zss ps ((j : Int) - 1) then allP zss r (ps ++ [(j : Int) - 1]) else [])) = allP zss r (ps ++ [((0 : Nat) : Int) - 1]) := by
      rw [show List.range 1 = [0] from rfl]
      simp only [List.flatMap_cons, List.flatMap_nil, List.append_nil]
      rw [if_pos h]
    rw [e]
    have := allP_pos zss r (ps ++ [((0 : Nat) : Int) - 1])
    omega
theorem gR_mem {L : List (List Int)} {j : Nat} (h : j < L.length) : gR L j ∈ L := by
  unfold gR; rw [List.getD_eq_getElem?_getD, List.getElem?_eq_getElem h]; exact List.getElem_mem h
theorem bst_facts (zss : List (List Int)) (miss : Int) : prB zss (bstP zss miss) = true ∧ ∀ q, prB zss q = true → smV zss miss (bstP zss miss) ≤ smV zss miss q := by
  have hp := allP_pos zss zss.length []
  obtain ⟨h1, h2⟩ := bI_le (smV zss miss) (allP zss zss.length []) ((allP zss zss.length []).length - 1)
  refine ⟨allP_pr.1 (gR_mem (by omega)), fun q hq => ?_⟩
  obtain ⟨j, hj, e⟩ := List.getElem_of_mem (allP_pr.2 hq)
  have := h2 j (by omega)
  rw [show gR (allP zss zss.length []) j = q by unfold gR; rw [List.getD_eq_getElem?_getD, List.getElem?_eq_getElem hj]; exact e] at this
  exact this
/-- the bound -/
def lsT (zss : List (List Int)) (miss : Int) (i : Nat) : Nat → Int
  | 0 => miss
  | k + 1 => if 0 ≤ eAt zss i k then (if eAt zss i k < lsT zss miss i k then eAt zss i k else lsT zss miss i k) else lsT zss miss i k
def sbT (zss : List (List Int)) (miss : Int) : Nat → Int
  | 0 => 0
  | i + 1 => sbT zss miss i + lsT zss miss i (gR zss i).length
theorem lsT_le {zss : List (List Int)} {miss : Int} {i : Nat} (m0 : 0 ≤ miss) : ∀ k, 0 ≤ lsT zss miss i k ∧ lsT zss miss i k ≤ miss ∧ ∀ j, j < k → 0 ≤ eAt zss i j → lsT zss miss i k ≤ eAt zss i j
  | 0 => ⟨m0, Int.le_refl _, fun j hj => by omega⟩
  | k + 1 => by
    obtain ⟨h1, h2, h3⟩ := lsT_le (zss := zss) (i := i) m0 k
    unfold lsT
    split
    · split
      · refine ⟨by assumption, by omega, fun j hj h0 => ?_⟩
        by_cases e : j < k
        · have := h3 j e h0; omega
        · obtain rfl : j = k := by omega
          omega
      · refine ⟨h1, h2, fun j hj h0 => ?_⟩
        by_cases e : j < k
        · exact h3 j e h0
        · obtain rfl : j = k := by omega
          omega
    · refine ⟨h1, h2, fun j hj h0 => ?_⟩
      by_cases e : j < k
      · exact h3 j e h0
      · obtain rfl : j = k := by omega
        exact absurd h0 (by assumption)
theorem sb_le {zss : List (List Int)} {miss : Int} {ps : List Int} (hp : PrE zss ps) (m0 : 0 ≤ miss) : ∀ k, k ≤ ps.length → sbT zss miss k ≤ smT zss miss ps k
  | 0, _ => Int.le_refl _
  | k + 1, hk => by
    have ih := sb_le hp m0 k (by omega)
    obtain ⟨h1, h2, h3⟩ := hp k (by omega)
    obtain ⟨-, l1, l2⟩ := lsT_le (zss := zss) (i := k) m0 (gR zss k).length
    simp only [smT, sbT]
    unfold smA
    split
    · omega
    · have h4 := (h3 (by omega)).1
      have := l2 (pI ps k).toNat (by omega) h4
      omega
/-- counts -/
theorem flat_len_le {f g : Nat → List (List Int)} {n : Nat} (h : ∀ j, j < n → (f j).length ≤ (g j).length) : ((List.range n).flatMap f).length ≤ ((List.range n).flatMap g).length := by
  induction n with
  | zero => simp
  | succ n ih =>
    have a := ih (fun j hj => h j (by omega))
    have b := h n (by omega)
    rw [List.range_succ, List.flatMap_append, List.flatMap_append, List.length_append, List.length_append]
    simp only [List.flatMap_cons, List.flatMap_nil, List.append_nil]
    omega
theorem gR_tail (zs : List Int) (zss : List (List Int)) (j : Nat) : gR (zs :: zss) (j + 1) = gR zss j := by unfold gR; rfl
theorem kOk_tail (zs : List Int) (zss : List (List Int)) (ps : List Int) (k : Int) : kOk (zs :: zss) (-1 :: ps) k ↔ kOk zss ps k := by
  unfold kOk eAt
  rw [List.length_cons, gR_tail]
  constructor
  · rintro (h | ⟨h, g⟩)
    · exact Or.inl h
    · exact Or.inr ⟨h, fun e => g (List.mem_cons_of_mem _ e)⟩
  · rintro (h | ⟨h, g⟩)
    · exact Or.inl h
    · by_cases h0 : k < 0
      · exact Or.inl h0
      · refine Or.inr ⟨h, fun e => ?_⟩
        rcases List.mem_cons.1 e with e | e
        · omega
        · exact g e
theorem allP_tail (zs : List Int) (zss : List (List Int)) : ∀ (r : Nat) (ps : List Int), (allP (zs :: zss) r (-1 :: ps)).length = (allP zss r ps).length
  | 0, ps => rfl
  | r + 1, ps => by
    unfold allP
    rw [List.length_cons, gR_tail]
    apply Nat.le_antisymm
    · refine flat_len_le fun j _ => ?_
      by_cases h : kOk zss ps ((j : Int) - 1)
      · rw [if_pos h, if_pos ((kOk_tail zs zss ps _).2 h), List.cons_append]
        exact Nat.le_of_eq (allP_tail zs zss r _)
      · rw [if_neg (fun e => h ((kOk_tail zs zss ps _).1 e))]; simp
    · refine flat_len_le fun j _ => ?_
      by_cases h : kOk zss ps ((j : Int) - 1)
      · rw [if_pos h, if_pos ((kOk_tail zs zss ps _).2 h), List.cons_append]
        exact Nat.le_of_eq (allP_tail zs zss r _).symm
      · rw [if_neg h]; simp
/-- with one row less there are not more -/
theorem cnt_less (zs : List Int) (zss : List (List Int)) : (allP zss zss.length []).length ≤ (allP (zs :: zss) (zs :: zss).length []).length := by
  rw [← allP_tail zs zss zss.length [], List.length_cons]
  rw [show allP (zs :: zss) (zss.length + 1) [] = (List.range ((gR (zs :: zss) ([] : List Int).length).length + 1)).flatMap (fun (j : Nat) => if kOk (zs :: zss) [] ((j : Int) - 1) then allP (zs :: zss) zss.length ([] ++ [(j : Int) - 1]) else []) from rfl]
  rw [show (gR (zs :: zss) ([] : List Int).length).length + 1 = 1 + (gR (zs :: zss) ([] : List Int).length).length by omega, List.range_add, List.flatMap_append, List.length_append]
  have h : kOk (zs :: zss) [] (((0 : Nat) : Int) - 1) := Or.inl (by omega)
  rw [show List.range 1 = [0] from rfl]
  simp only [List.flatMap_cons, List.flatMap_nil, List.append_nil]
  rw [if_pos h]
  exact Nat.le_add_right _ _
/-- a table of the same shape without forbidden pairs has at least as many -/
theorem cnt_most {zss yss : List (List Int)} (hl : ∀ j, (gR yss j).length = (gR zss j).length) (h0 : ∀ i k, 0 ≤ eAt yss i k) : ∀ (r : Nat) (ps : List Int), (allP zss r ps).length ≤ (allP yss r ps).length
  | 0, ps => Nat.le_refl _
  | r + 1, ps => by
    unfold allP
    rw [hl]
    refine flat_len_le fun j _ => ?_
    by_cases h : kOk zss ps ((j : Int) - 1)
    · rw [if_pos h, if_pos (by
        rcases h with h | ⟨-, h⟩
        · exact Or.inl h
        · exact Or.inr ⟨h0 _ _, h⟩)]
      exact cnt_most hl h0 r _
    · rw [if_neg h]; simp
/-- partial matchings of r rows with f free columns -/
def mat : Nat → Nat → Nat
  | 0, _ => 1
  | r + 1, f => mat r f + f * mat r (f - 1)
def fre (c : Nat) (ps : List Int) : Nat := ((List.range c).filter (fun (k : Nat) => decide (¬ (k : Int) ∈ ps))).length
theorem fre_neg (c : Nat) (ps : List Int) : fre c (ps ++ [-1]) = fre c ps := by
  unfold fre
  congr 1
  apply List.filter_congr
  intro k _
  congr 1
  apply propext
  rw [List.mem_append, List.mem_singleton]
  constructor
  · exact fun h e => h (Or.inl e)
  · rintro h (e | e)
    · exact h e
    · omega
theorem fre_snoc {ps : List Int} : ∀ {c k : Nat}, k < c → ¬ (k : Int) ∈ ps → fre c (ps ++ [(k : Int)]) = fre c ps - 1 ∧ 0 < fre c ps
  | c + 1, k, hk, h => by
    unfold fre
    rw [List.range_succ, List.filter_append, List.filter_append, List.length_append, List.length_append]
    by_cases e : k = c
    · subst e
      have e1 : (List.range k).filter (fun (j : Nat) => decide (¬ (j : Int) ∈ ps ++ [(k : Int)])) = (List.range k).filter (fun (j : Nat) => decide (¬ (j : Int) ∈ ps)) := by
        apply List.filter_congr
        intro j hj
        have hj' := List.mem_range.1 hj
        congr 1
        apply propext
        rw [List.mem_append, List.mem_singleton]
        constructor
        · exact fun h e => h (Or.inl e)
        · rintro h (e | e)
          · exact h e
          · omega
      rw [e1]
      have a1 : ([k].filter (fun (j : Nat) => decide (¬ (j : Int) ∈ ps ++ [(k : Int)]))).length = 0 := by simp
      have a2 : ([k].filter (fun (j : Nat) => decide (¬ (j : Int) ∈ ps))).length = 1 := by simp [h]
      omega
    · obtain ⟨i1, i2⟩ := fre_snoc (ps := ps) (c := c) (k := k) (by omega) h
      unfold fre at i1 i2
      have a1 : ([c].filter (fun (j : Nat) => decide (¬ (j : Int) ∈ ps ++ [(k : Int)]))) = ([c].filter (fun (j : Nat) => decide (¬ (j : Int) ∈ ps))) := by
        apply List.filter_congr
        intro j hj
        have hj' : j = c := List.mem_singleton.1 hj
        subst hj'
        congr 1
        apply propext
        rw [List.mem_append, List.mem_singleton]
        constructor
        · exact fun h e => h (Or.inl e)
        · rintro h (e | e)
          · exact h e
          · omega
      rw [a1]
      omega
theorem flat_mat {ps : List Int} {f : Nat → List (List Int)} {M : Nat} : ∀ c : Nat, (∀ k, k < c → (f k).length = if ¬ (k : Int) ∈ ps then M else 0) → ((List.range c).flatMap f).length = fre c ps * M
  | 0, _ => by simp [fre]
  | c + 1, h => by
    have ih := flat_mat (ps := ps) (f := f) (M := M) c (fun k hk => h k (by omega))
    have hc := h c (by omega)
    unfold fre at ih ⊢
    rw [List.range_succ, List.flatMap_append, List.length_append, List.filter_append, List.length_append, ih]
    simp only [List.flatMap_cons, List.flatMap_nil, List.append_nil]
    rw [hc]
    by_cases e : (c : Int) ∈ ps
    · simp [e]
    · rw [if_pos e]
      have a2 : ([c].filter (fun (j : Nat) => decide (¬ (j : Int) ∈ ps))).length = 1 := by simp [e]
      rw [a2, Nat.add_mul, Nat.one_mul]
theorem cnt_mat {yss : List (List Int)} {c n : Nat} (hl : ∀ j, j < n → (gR yss j).length = c) (h0 : ∀ i k, 0 ≤ eAt yss i k) : ∀ (r : Nat) (ps : List Int), ps.length + r = n → (allP yss r ps).length = mat r (fre c ps)
  | 0, ps, _ => rfl
  | r + 1, ps, hn => by
    unfold allP mat
    rw [hl ps.length (by omega), show c + 1 = 1 + c by omega, List.range_add, List.flatMap_append, List.length_append]
    have h : kOk yss ps (((0 : Nat) : Int) - 1) := Or.inl (by omega)
    rw [show List.range 1 = [0] from rfl]
    simp only [List.flatMap_cons, List.flatMap_nil, List.append_nil]
    rw [if_pos h, show (((0 : Nat) : Int) - 1) = -1 from rfl, cnt_mat hl h0 r (ps ++ [-1]) (by simp; omega), fre_neg]
    congr 1
    rw [List.flatMap_map]
    refine flat_mat (ps := ps) c fun k hk => ?_
    rw [show ((1 + k : Nat) : Int) - 1 = (k : Int) by omega]
    by_cases e : (k : Int) ∈ ps
    · rw [if_neg (show ¬ kOk yss ps (k : Int) by
        rintro (h | ⟨-, h⟩)
        · omega
        · exact h e), if_neg (fun g => g e)]
      rfl
    · rw [if_pos (show kOk yss ps (k : Int) from Or.inr ⟨h0 _ _, e⟩), if_pos e, cnt_mat hl h0 r (ps ++ [(k : Int)]) (by simp; omega), (fre_snoc hk e).1]
theorem fre_nil (c : Nat) : fre c [] = c := by unfold fre; rw [List.filter_eq_self.2 (fun k _ => by simp)]; simp
/-- the sum of the ways to choose k pairs -/
def wyT (r c : Int) : Nat → Int × Int
  | 0 => (0, 1)
  | k + 1 => ((wyT r c k).1 + (wyT r c k).2, Int.tdiv ((wyT r c k).2 * (r - (k : Int)) * (c - (k : Int))) ((k : Int) + 1))
theorem wy_mat : ∀ r, r < 7 → ∀ c, c < 7 → (wyT (r : Nat) (c : Nat) (min r c + 1)).1 = ((mat r c : Nat) : Int) := by decide +kernel
/-- the greedy pairing: a free pair that is cheap enough; the first of the least of them -/
def frP (zss : List (List Int)) (miss : Int) (out : List Int) (i k : Nat) : Prop := pI out i < 0 ∧ ¬ (k : Int) ∈ out ∧ 0 ≤ eAt zss i k ∧ eAt zss i k < miss
instance (zss : List (List Int)) (miss : Int) (out : List Int) (i k : Nat) : Decidable (frP zss miss out i k) := by unfold frP; infer_instance
def bet (zss : List (List Int)) (i k : Nat) : Option (Nat × Nat) → Prop
  | none => True
  | some (r, c) => eAt zss i k < eAt zss r c
instance (zss : List (List Int)) (i k : Nat) (rc : Option (Nat × Nat)) : Decidable (bet zss i k rc) := by unfold bet; split <;> infer_instance
def stG (zss : List (List Int)) (miss : Int) (out : List Int) (rc : Option (Nat × Nat)) (i k : Nat) : Option (Nat × Nat) := if frP zss miss out i k ∧ bet zss i k rc then some (i, k) else rc
def fnK (zss : List (List Int)) (miss : Int) (out : List Int) (i : Nat) (rc : Option (Nat × Nat)) : Nat → Option (Nat × Nat)
  | 0 => rc
  | k + 1 => stG zss miss out (fnK zss miss out i rc k) i k
def fnI (zss : List (List Int)) (miss : Int) (out : List Int) : Nat → Option (Nat × Nat)
  | 0 => none
  | i + 1 => fnK zss miss out i (fnI zss miss out i) (gR zss i).length
/-- what a search leaves that has seen the pairs of S -/
def Seen2 (zss : List (List Int)) (miss : Int) (out : List Int) (S : Nat → Nat → Prop) : Option (Nat × Nat) → Prop
  | none => ∀ i k, S i k → ¬ frP zss miss out i k
  | some (r, c) => S r c ∧ frP zss miss out r c ∧ ∀ i k, S i k → frP zss miss out i k → eAt zss r c ≤ eAt zss i k
theorem seen_step {zss : List (List Int)} {miss : Int} {out : List Int} {S T : Nat → Nat → Prop} {rc : Option (Nat × Nat)} {i k : Nat} (h : Seen2 zss miss out S rc) (hT : ∀ a b, T a b ↔ S a b ∨ (a = i ∧ b = k)) : Seen2 zss miss out T (stG zss miss out rc i k) := by
  unfold stG
  by_cases hf : frP zss miss out i k
  · by_cases hb : bet zss i k rc
    · rw [if_pos ⟨hf, hb⟩]
      refine ⟨(hT i k).2 (Or.inr ⟨rfl, rfl⟩), hf, fun a b hab hfab => ?_⟩
      rcases (hT a b).1 hab with hs | ⟨rfl, rfl⟩
      · match rc, h, hb with
        | none, h, _ => exact absurd hfab (h a b hs)
        | some (r, c), h, hb =>
          have h1 := h.2.2 a b hs hfab
          have h2 : eAt zss i k < eAt zss r c := hb
          omega
      · exact Int.le_refl _
    · rw [if_neg (fun e => hb e.2)]
      match rc, h, hb with
      | none, h, hb => exact absurd trivial hb
      | some (r, c), h, hb =>
        refine ⟨(hT r c).2 (Or.inl h.1), h.2.1, fun a b hab hfab => ?_⟩
        rcases (hT a b).1 hab with hs | ⟨rfl, rfl⟩
        · exact h.2.2 a b hs hfab
        · have h2 : ¬ eAt zss a b < eAt zss r c := hb
          omega
  · rw [if_neg (fun e => hf e.1)]
    match rc, h with
    | none, h =>
      intro a b hab hfab
      rcases (hT a b).1 hab with hs | ⟨rfl, rfl⟩
      · exact h a b hs hfab
      · exact hf hfab
    | some (r, c), h =>
      refine ⟨(hT r c).2 (Or.inl h.1), h.2.1, fun a b hab hfab => ?_⟩
      rcases (hT a b).1 hab with hs | ⟨rfl, rfl⟩
      · exact h.2.2 a b hs hfab
      · exact absurd hfab hf
theorem seen_congr {zss : List (List Int)} {miss : Int} {out : List Int} {S T : Nat → Nat → Prop} {rc : Option (Nat × Nat)} (h : Seen2 zss miss out S rc) (hT : ∀ a b, T a b ↔ S a b) : Seen2 zss miss out T rc := by
  match rc, h with
  | none, h => exact fun a b hab => h a b ((hT a b).1 hab)
  | some (r, c), h => exact ⟨(hT r c).2 h.1, h.2.1, fun a b hab => h.2.2 a b ((hT a b).1 hab)⟩
theorem fnK_seen {zss : List (List Int)} {miss : Int} {out : List Int} {S : Nat → Nat → Prop} {rc : Option (Nat × Nat)} {i : Nat} (h : Seen2 zss miss out S rc) : ∀ k, Seen2 zss miss out (fun a b => S a b ∨ (a = i ∧ b < k)) (fnK zss miss out i rc k)
  | 0 => seen_congr h (fun a b => ⟨fun e => by rcases e with e | ⟨-, e⟩; exact e; omega, Or.inl⟩)
  | k + 1 => seen_step (fnK_seen h k) (fun a b => by
    constructor
    · rintro (e | ⟨e1, e2⟩)
      · exact Or.inl (Or.inl e)
      · by_cases h : b < k
        · exact Or.inl (Or.inr ⟨e1, h⟩)
        · exact Or.inr ⟨e1, by omega⟩
    · rintro ((e | ⟨e1, e2⟩) | ⟨e1, e2⟩)
      · exact Or.inl e
      · exact Or.inr ⟨e1, by omega⟩
      · exact Or.inr ⟨e1, by omega⟩)
theorem fnI_seen (zss : List (List Int)) (miss : Int) (out : List Int) : ∀ n, Seen2 zss miss out (fun a b => a < n ∧ b < (gR zss a).length) (fnI zss miss out n)
  | 0 => fun a b h => absurd h.1 (by omega)
  | n + 1 => seen_congr (fnK_seen (fnI_seen zss miss out n) _) (fun a b => by
    constructor
    · rintro ⟨e1, e2⟩
      by_cases h : a < n
      · exact Or.inl ⟨h, e2⟩
      · obtain rfl : a = n := by omega
        exact Or.inr ⟨rfl, e2⟩
    · rintro (⟨e1, e2⟩ | ⟨rfl, e2⟩)
      · exact ⟨by omega, e2⟩
      · exact ⟨by omega, e2⟩)
def grF (zss : List (List Int)) (miss : Int) : Nat → List Int → List Int
  | 0, out => out
  | f + 1, out => match fnI zss miss out zss.length with
    | none => out
    | some (r, c) => grF zss miss f (out.set r (c : Int))
def grV (zss : List (List Int)) (miss : Int) : List Int := grF zss miss (zss.length + 1) (List.replicate zss.length (-1))
/-- how many rows are free -/
def ngC (out : List Int) : Nat := (out.filter (fun z => decide (z < 0))).length
theorem ngC_set : ∀ {out : List Int} {r : Nat} {c : Int}, r < out.length → pI out r < 0 → 0 ≤ c → ngC (out.set r c) + 1 = ngC out
  | z :: out, 0, c, _, h, hc => by
    have hz : z < 0 := h
    have hn : ¬ c < 0 := by omega
    unfold ngC
    simp only [List.set_cons_zero, List.filter_cons, decide_eq_true_eq, hz, hn, if_true, if_false, List.length_cons]
  | z :: out, r + 1, c, hr, h, hc => by
    have ih := ngC_set (out := out) (r := r) (c := c) (by simpa using hr) h hc
    unfold ngC at ih ⊢
    simp only [List.set_cons_succ, List.filter_cons, decide_eq_true_eq]
    split
    · simp only [List.length_cons]; omega
    · omega
theorem pI_set {out : List Int} {r i : Nat} {c : Int} (h : r < out.length) : pI (out.set r c) i = if i = r then c else pI out i := by
  unfold pI
  rw [List.getD_eq_getElem?_getD, List.getElem?_set, List.getD_eq_getElem?_getD]
  by_cases e : r = i
  · subst e; simp [h]
  · rw [if_neg e, if_neg (fun x => e x.symm)]
theorem PrE_set {zss : List (List Int)} {miss : Int} {out : List Int} {r c : Nat} (h : PrE zss out) (hr : r < out.length) (hc : c < (gR zss r).length) (hf : frP zss miss out r c) : PrE zss (out.set r (c : Int)) := by
  intro i hi
  rw [List.length_set] at hi
  obtain ⟨f1, f2, f3, f4⟩ := hf
  unfold PrO
  rw [pI_set hr]
  by_cases e : i = r
  · subst e
    rw [if_pos rfl]
    refine ⟨by omega, by omega, fun _ => ⟨by rw [Int.toNat_natCast]; exact f3, fun hm => f2 ?_⟩⟩
    rw [List.take_set_of_le (Nat.le_refl _)] at hm
    exact List.mem_of_mem_take hm
  · rw [if_neg e]
    obtain ⟨h1, h2, h3⟩ := h i hi
    refine ⟨h1, h2, fun h0 => ⟨(h3 h0).1, fun hm => ?_⟩⟩
    obtain ⟨j, hj, ej⟩ := List.getElem_of_mem hm
    rw [List.length_take, List.length_set] at hj
    rw [List.getElem_take, List.getElem_set] at ej
    split at ej
    · have : pI out i ∈ out := by unfold pI; rw [List.getD_eq_getElem?_getD, List.getElem?_eq_getElem hi]; exact List.getElem_mem hi
      rw [← ej] at this
      exact f2 this
    · refine (h3 h0).2 ?_
      rw [← ej]
      exact List.mem_iff_getElem.2 ⟨j, by rw [List.length_take]; omega, by rw [List.getElem_take]⟩
theorem grF_facts {zss : List (List Int)} {miss : Int} : ∀ {f : Nat} {out : List Int}, out.length = zss.length → PrE zss out → ngC out < f → (grF zss miss f out).length = zss.length ∧ PrE zss (grF zss miss f out) ∧ fnI zss miss (grF zss miss f out) zss.length = none
  | f + 1, out, hl, hp, hn => by
    unfold grF
    have hs := fnI_seen zss miss out zss.length
    match hE : fnI zss miss out zss.length, hs with
    | none, _ => exact ⟨hl, hp, hE⟩
    | some (r, c), hs =>
      obtain ⟨⟨h1, h2⟩, h3, -⟩ := hs
      have hng := ngC_set (out := out) (r := r) (c := (c : Int)) (by omega) h3.1 (by omega)
      exact grF_facts (f := f) (by rw [List.length_set]; exact hl) (PrE_set hp (by omega) h2 h3) (by omega)
theorem PrE_rep (zss : List (List Int)) (n : Nat) : PrE zss (List.replicate n (-1)) := by
  intro i hi
  have e : pI (List.replicate n (-1)) i = -1 := by
    unfold pI
    rw [List.getD_eq_getElem?_getD, List.getElem?_replicate, if_pos (by simpa using hi)]
    rfl
  unfold PrO
  rw [e]
  exact ⟨by omega, by omega, fun h => by omega⟩
theorem grV_facts (zss : List (List Int)) (miss : Int) : prB zss (grV zss miss) = true ∧ ∀ i k, i < zss.length → k < (gR zss i).length → ¬ frP zss miss (grV zss miss) i k := by
  obtain ⟨h1, h2, h3⟩ := grF_facts (zss := zss) (miss := miss) (f := zss.length + 1) (out := List.replicate zss.length (-1)) (by simp) (PrE_rep _ _) (by
    unfold ngC
    have := List.length_filter_le (fun z : Int => decide (z < 0)) (List.replicate zss.length (-1))
    rw [List.length_replicate] at this
    omega)
  refine ⟨decide_eq_true ⟨h1, h2⟩, fun i k hi hk => ?_⟩
  have hs := fnI_seen zss miss (grV zss miss) zss.length
  rw [show fnI zss miss (grV zss miss) zss.length = none from h3] at hs
  exact hs i k ⟨hi, hk⟩
/-- the columns that are paired with no row -/
def fcL (ps : List Int) : Nat → List Int
  | 0 => []
  | k + 1 => if (k : Int) ∈ ps then fcL ps k else fcL ps k ++ [(k : Int)]
theorem fcL_len (ps : List Int) : ∀ k, (fcL ps k).length ≤ k
  | 0 => Nat.le_refl _
  | k + 1 => by
    have ih := fcL_len ps k
    unfold fcL
    split
    · omega
    · rw [List.length_append]; simpa using ih
theorem fcL_mem {ps : List Int} {j : Nat} : ∀ {k : Nat}, (j : Int) ∈ fcL ps k ↔ j < k ∧ ¬ (j : Int) ∈ ps
  | 0 => by simp [fcL]
  | k + 1 => by
    unfold fcL
    split
    · rename_i h
      rw [fcL_mem]
      constructor
      · exact fun e => ⟨by omega, e.2⟩
      · rintro ⟨e, g⟩
        refine ⟨?_, g⟩
        by_cases ej : j = k
        · subst ej; exact absurd h g
        · omega
    · rename_i h
      rw [List.mem_append, fcL_mem, List.mem_singleton]
      constructor
      · rintro (e | e)
        · exact ⟨by omega, e.2⟩
        · obtain rfl : j = k := Int.ofNat_inj.1 e
          exact ⟨by omega, h⟩
      · rintro ⟨e, g⟩
        by_cases ej : j < k
        · exact Or.inl ⟨ej, g⟩
        · obtain rfl : j = k := by omega
          exact Or.inr rfl
end Go.Proofs.Ytlahgdhofakinaa
