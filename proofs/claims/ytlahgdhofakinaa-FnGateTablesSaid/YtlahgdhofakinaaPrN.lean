/- Pairings as lists of six columns: which of them arise from the first rows, their order, and the best of them. -/
import Derived.Test.YtlahgdhofakinaaPrM
namespace Go.Proofs.Ytlahgdhofakinaa
open Num
set_option linter.unusedVariables false
set_option linter.unusedSimpArgs false
/-- six columns; those that arise from the first r rows -/
def un6 : List Int := [-1, -1, -1, -1, -1, -1]
def okC (zss : List (List Int)) (r : Nat) (p : List Int) (c : Int) : Prop := c = -1 ∨ (0 ≤ c ∧ c < ((gR zss r).length : Int) ∧ 0 ≤ eAt zss r c.toNat ∧ ¬ c ∈ p)
instance (zss : List (List Int)) (r : Nat) (p : List Int) (c : Int) : Decidable (okC zss r p c) := by unfold okC; infer_instance
def stB (zss : List (List Int)) : Nat → List Int → Bool
  | 0, q => decide (q = un6)
  | r + 1, q => stB zss r (q.set r (-1)) && decide (okC zss r (q.set r (-1)) (pI q r))
theorem stB_len {zss : List (List Int)} : ∀ {r : Nat} {q : List Int}, stB zss r q = true → q.length = 6
  | 0, q, h => by
    have := of_decide_eq_true h
    rw [this]; rfl
  | r + 1, q, h => by
    unfold stB at h
    rw [Bool.and_eq_true] at h
    have := stB_len h.1
    rwa [List.length_set] at this
theorem pI_un6 (j : Nat) (h : j < 6) : pI un6 j = -1 := by
  match j, h with
  | 0, _ => rfl
  | 1, _ => rfl
  | 2, _ => rfl
  | 3, _ => rfl
  | 4, _ => rfl
  | 5, _ => rfl
theorem pI_get {q : List Int} {j : Nat} (h : j < q.length) : pI q j = q[j] := by
  unfold pI; rw [List.getD_eq_getElem?_getD, List.getElem?_eq_getElem h]; rfl
theorem pI_ext {p q : List Int} (hl : p.length = q.length) (h : ∀ j, j < p.length → pI p j = pI q j) : p = q :=
  List.ext_getElem hl fun i h1 h2 => by rw [← pI_get h1, ← pI_get h2]; exact h i h1
theorem set_self {p : List Int} {r : Nat} (h : pI p r = -1) (hr : r < p.length) : p.set r (-1) = p := by
  apply pI_ext (by simp)
  intro j hj
  rw [pI_set hr]
  split
  · rename_i e; rw [e, h]
  · rfl
theorem set_back {p : List Int} {r : Nat} {c : Int} (h : pI p r = -1) (hr : r < p.length) : (p.set r c).set r (-1) = p := by
  rw [List.set_set]; exact set_self h hr
theorem stB_tail {zss : List (List Int)} : ∀ {r : Nat} {q : List Int}, stB zss r q = true → ∀ j, r ≤ j → j < 6 → pI q j = -1
  | 0, q, h, j, _, hj => by
    have := of_decide_eq_true h
    rw [this]; exact pI_un6 j hj
  | r + 1, q, h, j, h1, hj => by
    have hl := stB_len h
    unfold stB at h
    rw [Bool.and_eq_true] at h
    have := stB_tail h.1 j (by omega) hj
    rw [pI_set (by omega), if_neg (by omega)] at this
    exact this
/-- the children of a list -/
theorem stB_child {zss : List (List Int)} {r : Nat} {p : List Int} (h : stB zss r p = true) (hr : r < 6) {c : Int} (hc : okC zss r p c) : stB zss (r + 1) (p.set r c) = true := by
  have hl := stB_len h
  have ht := stB_tail h r (Nat.le_refl _) hr
  unfold stB
  rw [Bool.and_eq_true, set_back ht (by omega), pI_set (by omega), if_pos rfl]
  exact ⟨h, decide_eq_true hc⟩
theorem stB_par {zss : List (List Int)} {r : Nat} {q : List Int} (h : stB zss (r + 1) q = true) : stB zss r (q.set r (-1)) = true ∧ okC zss r (q.set r (-1)) (pI q r) := by
  unfold stB at h
  rw [Bool.and_eq_true] at h
  exact ⟨h.1, of_decide_eq_true h.2⟩
theorem par_eq {q p : List Int} {r : Nat} (hq : q.length = 6) (hr : r < 6) (h : q.set r (-1) = p) : q = p.set r (pI q r) := by
  subst h
  rw [List.set_set]
  apply pI_ext (by simp)
  intro j hj
  rw [pI_set (by omega)]
  split
  · rename_i e; rw [e]
  · rfl
/-- .. as pairings of the first r rows -/
theorem take_snoc {q : List Int} {r : Nat} (h : r < q.length) : q.take (r + 1) = q.take r ++ [pI q r] := by
  rw [List.take_add_one, List.getElem?_eq_getElem h, pI_get h]; rfl
theorem take_set {q : List Int} {r : Nat} {c : Int} : (q.set r c).take r = q.take r := List.take_set_of_le (Nat.le_refl _)
theorem mem_take6 {q : List Int} {r : Nat} {c : Int} (hq : q.length = 6) (hr : r ≤ 6) (hc : 0 ≤ c) (ht : ∀ j, r ≤ j → j < 6 → pI q j = -1) : c ∈ q ↔ c ∈ q.take r := by
  constructor
  · intro h
    obtain ⟨j, hj, e⟩ := List.getElem_of_mem h
    rw [← pI_get hj] at e
    by_cases hjr : j < r
    · rw [pI_get hj] at e
      exact List.mem_iff_getElem.2 ⟨j, by rw [List.length_take]; omega, by rw [List.getElem_take]; exact e⟩
    · have := ht j (by omega) (by omega)
      omega
  · exact List.mem_of_mem_take
theorem stB_iff {zss : List (List Int)} : ∀ {r : Nat} {q : List Int}, r ≤ 6 → (stB zss r q = true ↔ q.length = 6 ∧ PrE zss (q.take r) ∧ ∀ j, r ≤ j → j < 6 → pI q j = -1)
  | 0, q, _ => by
    constructor
    · intro h
      exact ⟨stB_len h, by simpa using PrE_nil zss, stB_tail h⟩
    · rintro ⟨h1, -, h3⟩
      refine decide_eq_true (pI_ext (by rw [h1]; rfl) fun j hj => ?_)
      rw [h3 j (Nat.zero_le _) (by omega), pI_un6 j (by omega)]
  | r + 1, q, hr => by
    constructor
    · intro h
      have hl := stB_len h
      have ht := stB_tail h
      obtain ⟨h1, h2⟩ := stB_par h
      obtain ⟨-, h3, h4⟩ := (stB_iff (by omega)).1 h1
      rw [take_set] at h3
      refine ⟨hl, ?_, ht⟩
      rw [take_snoc (by omega)]
      have hlt : (q.take r).length = r := by rw [List.length_take]; omega
      refine PrE_snoc.2 ⟨h3, ?_⟩
      rw [hlt]
      rcases h2 with h2 | ⟨h5, h6, h7, h8⟩
      · rw [h2]; exact ⟨by omega, by omega, fun h => by omega⟩
      · refine ⟨by omega, by omega, fun _ => ⟨h7, fun hm => h8 ?_⟩⟩
        rw [mem_take6 (by simpa using hl) (by omega) h5 h4, take_set]
        exact hm
    · rintro ⟨hl, h2, h3⟩
      rw [take_snoc (by omega)] at h2
      have hlt : (q.take r).length = r := by rw [List.length_take]; omega
      obtain ⟨g1, g2⟩ := PrE_snoc.1 h2
      rw [hlt] at g2
      obtain ⟨g2, g3, g4⟩ := g2
      have htl : ∀ j, r ≤ j → j < 6 → pI (q.set r (-1)) j = -1 := by
        intro j h1 h2
        rw [pI_set (by omega)]
        split
        · rfl
        · exact h3 j (by omega) h2
      unfold stB
      rw [Bool.and_eq_true]
      refine ⟨(stB_iff (by omega)).2 ⟨by simpa using hl, by rw [take_set]; exact g1, htl⟩, decide_eq_true ?_⟩
      by_cases h0 : pI q r = -1
      · exact Or.inl h0
      · have h1 : 0 ≤ pI q r := by omega
        refine Or.inr ⟨h1, by omega, (g4 h1).1, fun hm => (g4 h1).2 ?_⟩
        rw [mem_take6 (by simpa using hl) (by omega) h1 htl, take_set] at hm
        exact hm
/-- a list filled up to six -/
def pd6 (ps : List Int) : List Int := ps ++ List.replicate (6 - ps.length) (-1)
theorem pd6_len {ps : List Int} (h : ps.length ≤ 6) : (pd6 ps).length = 6 := by unfold pd6; rw [List.length_append, List.length_replicate]; omega
theorem pd6_take {ps : List Int} : (pd6 ps).take ps.length = ps := by unfold pd6; rw [List.take_append_of_le_length (Nat.le_refl _), List.take_length]
theorem pd6_lt {ps : List Int} {j : Nat} (h : j < ps.length) : pI (pd6 ps) j = pI ps j := by
  unfold pd6 pI; rw [List.getD_eq_getElem?_getD, List.getElem?_append_left h, List.getD_eq_getElem?_getD]
theorem pd6_ge {ps : List Int} {j : Nat} (h : ps.length ≤ j) (h6 : j < 6) : pI (pd6 ps) j = -1 := by
  unfold pd6 pI
  rw [List.getD_eq_getElem?_getD, List.getElem?_append_right h, List.getElem?_replicate, if_pos (by omega)]; rfl
theorem stB_pd {zss : List (List Int)} {ps : List Int} (h6 : zss.length ≤ 6) (h : prB zss ps = true) : stB zss zss.length (pd6 ps) = true := by
  obtain ⟨h1, h2⟩ := prB_t h
  refine (stB_iff h6).2 ⟨pd6_len (by omega), by rw [← h1, pd6_take]; exact h2, fun j a b => pd6_ge (by omega) b⟩
theorem pd_stB {zss : List (List Int)} {q : List Int} (h6 : zss.length ≤ 6) (h : stB zss zss.length q = true) : prB zss (q.take zss.length) = true ∧ pd6 (q.take zss.length) = q := by
  obtain ⟨h1, h2, h3⟩ := (stB_iff h6).1 h
  have hl : (q.take zss.length).length = zss.length := by rw [List.length_take]; omega
  refine ⟨decide_eq_true ⟨hl, h2⟩, pI_ext (by rw [pd6_len (by omega), h1]) fun j hj => ?_⟩
  rw [pd6_len (by omega)] at hj
  by_cases hjn : j < zss.length
  · rw [pd6_lt (by omega)]
    unfold pI
    rw [List.getD_eq_getElem?_getD, List.getElem?_take, if_pos hjn, List.getD_eq_getElem?_getD]
  · rw [pd6_ge (by omega) hj, h3 j (by omega) hj]
/-- sums -/
theorem smT_congr {zss : List (List Int)} {miss : Int} {p q : List Int} : ∀ {k : Nat}, (∀ j, j < k → pI p j = pI q j) → smT zss miss p k = smT zss miss q k
  | 0, _ => rfl
  | k + 1, h => by
    unfold smT smA
    rw [smT_congr (fun j hj => h j (by omega)), h k (by omega)]
theorem smT_pd (zss : List (List Int)) (miss : Int) (ps : List Int) : smT zss miss (pd6 ps) ps.length = smV zss miss ps := smT_congr fun j hj => pd6_lt hj
theorem smT_set {zss : List (List Int)} {miss : Int} {p : List Int} {r : Nat} {c : Int} (hr : r < p.length) : smT zss miss (p.set r c) (r + 1) = smT zss miss p r + if c < 0 then miss else eAt zss r c.toNat := by
  have h1 : smT zss miss (p.set r c) r = smT zss miss p r := smT_congr fun j hj => by rw [pI_set hr, if_neg (by omega)]
  show smT zss miss (p.set r c) r + smA zss miss (p.set r c) r = _
  unfold smA
  rw [h1, pI_set hr, if_pos rfl]
theorem smT_st {zss : List (List Int)} {miss : Int} {q : List Int} {r : Nat} (ha : AcP zss) (h : stB zss r q = true) (hr : r ≤ zss.length) (m0 : 0 ≤ miss) (m1 : miss ≤ 1000000000000) : 0 ≤ smT zss miss q r ∧ smT zss miss q r ≤ 1000000000000 * (r : Int) := by
  have h6 := ha.1
  obtain ⟨h1, h2, -⟩ := (stB_iff (by omega)).1 h
  have hl : (q.take r).length = r := by rw [List.length_take]; omega
  have := smT_bd ha h2 (by omega) m0 m1 r (by omega)
  rw [show smT zss miss (q.take r) r = smT zss miss q r from smT_congr fun j hj => by
    unfold pI; rw [List.getD_eq_getElem?_getD, List.getElem?_take, if_pos hj, List.getD_eq_getElem?_getD]] at this
  exact this
/-- the order of lists of one length -/
def lxB : List Int → List Int → Bool
  | [], _ => false
  | _ :: _, [] => false
  | a :: p, b :: q => decide (a < b) || (decide (a = b) && lxB p q)
theorem lx_irr : ∀ p, lxB p p = false
  | [] => rfl
  | a :: p => by unfold lxB; rw [lx_irr p]; simp
theorem lx_trans : ∀ {p q s : List Int}, lxB p q = true → lxB q s = true → lxB p s = true
  | [], _, _, h, _ => by unfold lxB at h; cases h
  | _ :: _, [], _, h, _ => by unfold lxB at h; cases h
  | _ :: _, _ :: _, [], _, h => by unfold lxB at h; cases h
  | a :: p, b :: q, c :: s, h, g => by
    unfold lxB at h g ⊢
    simp only [Bool.or_eq_true, Bool.and_eq_true, decide_eq_true_eq] at h g ⊢
    rcases h with h | ⟨h, h2⟩ <;> rcases g with g | ⟨g, g2⟩
    · exact Or.inl (by omega)
    · exact Or.inl (by omega)
    · exact Or.inl (by omega)
    · exact Or.inr ⟨by omega, lx_trans h2 g2⟩
theorem lx_tot : ∀ {p q : List Int}, p.length = q.length → lxB p q = false → lxB q p = false → p = q
  | [], [], _, _, _ => rfl
  | [], _ :: _, h, _, _ => by cases h
  | _ :: _, [], h, _, _ => by cases h
  | a :: p, b :: q, hl, h, g => by
    unfold lxB at h g
    simp only [Bool.or_eq_false_iff, Bool.and_eq_false_iff, decide_eq_false_iff_not] at h g
    obtain rfl : a = b := by omega
    have e : p = q := lx_tot (by simpa using hl) (by
      rcases h.2 with h | h
      · exact absurd rfl h
      · exact h) (by
      rcases g.2 with h | h
      · exact absurd rfl h
      · exact h)
    rw [e]
theorem lx_app : ∀ {p q : List Int} (t : List Int), p.length = q.length → lxB (p ++ t) (q ++ t) = lxB p q
  | [], [], t, _ => by
    rw [List.nil_append, lx_irr]; rfl
  | [], _ :: _, _, h => by cases h
  | _ :: _, [], _, h => by cases h
  | a :: p, b :: q, t, hl => by
    simp only [List.cons_append]
    unfold lxB
    rw [lx_app t (by simpa using hl)]
theorem lx_pre : ∀ (ps : List Int) {a b : Int} (s t : List Int), a < b → lxB (ps ++ a :: s) (ps ++ b :: t) = true
  | [], a, b, s, t, h => by simp only [List.nil_append]; unfold lxB; simp [h]
  | c :: ps, a, b, s, t, h => by
    simp only [List.cons_append]
    unfold lxB
    rw [lx_pre ps s t h]
    simp
theorem lx_pd {p q : List Int} (h : p.length = q.length) : lxB (pd6 p) (pd6 q) = lxB p q := by
  unfold pd6
  rw [h, lx_app _ h]
/-- the model's pairings stand in that order -/
theorem allP_pre {zss : List (List Int)} : ∀ (r : Nat) (ps q : List Int), q ∈ allP zss r ps → ∃ t : List Int, t.length = r ∧ q = ps ++ t
  | 0, ps, q, h => by
    unfold allP at h
    rw [List.mem_singleton] at h
    exact ⟨[], rfl, by simp [h]⟩
  | r + 1, ps, q, h => by
    unfold allP at h
    rw [List.mem_flatMap] at h
    obtain ⟨j, hj, h⟩ := h
    split at h
    · obtain ⟨t, ht, e⟩ := allP_pre r _ q h
      exact ⟨((j : Int) - 1) :: t, by simp [ht], by rw [e]; simp⟩
    · simp at h
theorem flat_pw {f : Nat → List (List Int)} {R : List Int → List Int → Prop} : ∀ n : Nat, (∀ j, j < n → (f j).Pairwise R) → (∀ i j, i < j → j < n → ∀ x ∈ f i, ∀ y ∈ f j, R x y) → ((List.range n).flatMap f).Pairwise R
  | 0, _, _ => by simp
  | n + 1, h, g => by
    rw [List.range_succ, List.flatMap_append, List.pairwise_append]
    simp only [List.flatMap_cons, List.flatMap_nil, List.append_nil]
    refine ⟨flat_pw n (fun j hj => h j (by omega)) (fun i j hij hj => g i j hij (by omega)), h n (by omega), fun x hx y hy => ?_⟩
    rw [List.mem_flatMap] at hx
    obtain ⟨i, hi, hx⟩ := hx
    exact g i n (List.mem_range.1 hi) (by omega) x hx y hy
theorem allP_lx (zss : List (List Int)) : ∀ (r : Nat) (ps : List Int), (allP zss r ps).Pairwise (fun x y => lxB x y = true)
  | 0, ps => by simp [allP]
  | r + 1, ps => by
    unfold allP
    refine flat_pw _ (fun j hj => ?_) (fun i j hij hj x hx y hy => ?_)
    · split
      · exact allP_lx zss r _
      · exact List.Pairwise.nil
    · split at hx
      · split at hy
        · obtain ⟨s, -, rfl⟩ := allP_pre r _ x hx
          obtain ⟨t, -, rfl⟩ := allP_pre r _ y hy
          rw [List.append_assoc, List.append_assoc]
          exact lx_pre ps s t (by omega)
        · simp at hy
      · simp at hx
/-- the first of the least stands ahead of all that are as small -/
theorem bI_first (f : List Int → Int) (L : List (List Int)) : ∀ i j, j < bI f L i → f (gR L (bI f L i)) < f (gR L j)
  | 0, j, h => by unfold bI at h; omega
  | i + 1, j, h => by
    obtain ⟨h1, h2⟩ := bI_le f L i
    unfold bI at h ⊢
    split at h
    · rename_i g
      rw [if_pos g]
      by_cases e : j ≤ i
      · have := h2 j e; omega
      · omega
    · rename_i g
      rw [if_neg g]
      exact bI_first f L i j h
/-- better: a smaller sum, or the same and ahead in the order -/
def btB (f : List Int → Int) (p q : List Int) : Bool := decide (f p < f q) || (decide (f p = f q) && lxB p q)
theorem bt_trans {f : List Int → Int} {p q s : List Int} (h : btB f p q = true) (g : btB f q s = true) : btB f p s = true := by
  unfold btB at h g ⊢
  simp only [Bool.or_eq_true, Bool.and_eq_true, decide_eq_true_eq] at h g ⊢
  rcases h with h | ⟨h, h2⟩ <;> rcases g with g | ⟨g, g2⟩
  · exact Or.inl (by omega)
  · exact Or.inl (by omega)
  · exact Or.inl (by omega)
  · exact Or.inr ⟨by omega, lx_trans h2 g2⟩
theorem bt_tot {f : List Int → Int} {p q : List Int} (hl : p.length = q.length) (h : btB f p q = false) (g : btB f q p = false) : p = q := by
  unfold btB at h g
  simp only [Bool.or_eq_false_iff, Bool.and_eq_false_iff, decide_eq_false_iff_not] at h g
  have e : f p = f q := by omega
  refine lx_tot hl ?_ ?_
  · rcases h.2 with h | h
    · exact absurd e h
    · exact h
  · rcases g.2 with h | h
    · exact absurd e.symm h
    · exact h
theorem bt_irr (f : List Int → Int) (p : List Int) : btB f p p = false := by unfold btB; rw [lx_irr]; simp
/-- a better one takes the place of the best so far -/
theorem bt_step {f : List Int → Int} {p b q : List Int} (h : btB f p b = true) (g : btB f q b = false) : btB f q p = false := by
  cases e : btB f q p
  · rfl
  · rw [bt_trans e h] at g; cases g
theorem bst_lx {zss : List (List Int)} {miss : Int} {q : List Int} (h6 : zss.length ≤ 6) (h : stB zss zss.length q = true) : btB (fun p => smT zss miss p zss.length) q (pd6 (bstP zss miss)) = false := by
  obtain ⟨h1, h2⟩ := pd_stB h6 h
  obtain ⟨h3, h4⟩ := bst_facts zss miss
  have hbl := (prB_t h3).1
  have hql := (prB_t h1).1
  have e1 : smT zss miss (pd6 (bstP zss miss)) zss.length = smV zss miss (bstP zss miss) := by rw [← hbl]; exact smT_pd _ _ _
  have e2 : smT zss miss q zss.length = smV zss miss (q.take zss.length) := by
    have e := smT_pd zss miss (q.take zss.length)
    rw [h2, hql] at e
    exact e
  have h5 := h4 _ h1
  cases hb : btB (fun p => smT zss miss p zss.length) q (pd6 (bstP zss miss))
  · rfl
  · exfalso
    unfold btB at hb
    simp only [Bool.or_eq_true, Bool.and_eq_true, decide_eq_true_eq] at hb
    rw [e1, e2] at hb
    rcases hb with hb | ⟨hb, hx⟩
    · omega
    · rw [← h2, lx_pd (by rw [hql, hbl])] at hx
      have hm := allP_pr.2 h1
      obtain ⟨j, hj, e⟩ := List.getElem_of_mem hm
      have hej : gR (allP zss zss.length []) j = q.take zss.length := by unfold gR; rw [List.getD_eq_getElem?_getD, List.getElem?_eq_getElem hj]; exact e
      have hbi := (bI_le (smV zss miss) (allP zss zss.length []) ((allP zss zss.length []).length - 1)).1
      by_cases hlt : j < bI (smV zss miss) (allP zss zss.length []) ((allP zss zss.length []).length - 1)
      · have := bI_first _ _ _ j hlt
        rw [hej] at this
        have e3 : smV zss miss (bstP zss miss) < smV zss miss (q.take zss.length) := this
        omega
      · have hpos := allP_pos zss zss.length []
        by_cases hje : j = bI (smV zss miss) (allP zss zss.length []) ((allP zss zss.length []).length - 1)
        · rw [hje] at hej
          have : bstP zss miss = q.take zss.length := hej
          rw [this, lx_irr] at hx
          cases hx
        · have hpw := List.pairwise_iff_getElem.1 (allP_lx zss zss.length []) (bI (smV zss miss) (allP zss zss.length []) ((allP zss zss.length []).length - 1)) j (by omega) hj (by omega)
          have e4 : (allP zss zss.length [])[bI (smV zss miss) (allP zss zss.length []) ((allP zss zss.length []).length - 1)]'(by omega) = bstP zss miss := by
            unfold bstP gR; rw [List.getD_eq_getElem?_getD, List.getElem?_eq_getElem (by omega)]; rfl
          rw [e4, e] at hpw
          have := lx_trans hx hpw
          rw [lx_irr] at this
          cases this
theorem best_eq {zss : List (List Int)} {miss : Int} {b : List Int} (h6 : zss.length ≤ 6) (hb : stB zss zss.length b = true) (h : ∀ q, stB zss zss.length q = true → btB (fun p => smT zss miss p zss.length) q b = false) : b = pd6 (bstP zss miss) := by
  have h3 := (bst_facts zss miss).1
  have hl := (prB_t h3).1
  exact bt_tot (by rw [stB_len hb, pd6_len (by omega)]) (bst_lx h6 hb) (h _ (stB_pd h6 h3))
/-- two lists without repeats that have the same members are equally long -/
theorem len_le {α : Type} [DecidableEq α] : ∀ {l m : List α}, l.Nodup → (∀ x, x ∈ l → x ∈ m) → l.length ≤ m.length
  | [], _, _, _ => Nat.zero_le _
  | a :: l, m, hn, h => by
    obtain ⟨h1, h2⟩ := List.nodup_cons.1 hn
    have hm := h a (by simp)
    have := len_le (l := l) (m := m.erase a) h2 (fun x hx => (List.mem_erase_of_ne (fun e => h1 (by rw [← e]; exact hx))).2 (h x (by simp [hx])))
    rw [List.length_erase_of_mem hm] at this
    have hp := List.length_pos_of_mem hm
    simp only [List.length_cons]
    omega
end Go.Proofs.Ytlahgdhofakinaa
