/- What both sides compute of pulses: sums of products, correlations, sidelobes, pulses of bits, echoes; and the facts behind the laws. -/
import Derived.Test.YtlahgdhofakinaaPrs
namespace Go.Proofs.Ytlahgdhofakinaa
open Go.ChangeShapes Go.WideShapes Go.ChangeAt Go.RowKit
set_option linter.unusedVariables false
/-- the sum of the first m values of a function -/
def sumT (f : Nat → Int) : Nat → Int | 0 => 0 | m + 1 => sumT f m + f m
theorem sumT_succ (f : Nat → Int) (m : Nat) : sumT f (m + 1) = sumT f m + f m := rfl
theorem sumT_congr {f g : Nat → Int} : ∀ {m : Nat}, (∀ i, i < m → f i = g i) → sumT f m = sumT g m
  | 0, _ => rfl
  | m + 1, h => by rw [sumT_succ, sumT_succ, sumT_congr (fun i hi => h i (by omega)), h m (by omega)]
theorem sumT_le {f g : Nat → Int} : ∀ {m : Nat}, (∀ i, i < m → f i ≤ g i) → sumT f m ≤ sumT g m
  | 0, _ => Int.le_refl _
  | m + 1, h => by
    rw [sumT_succ, sumT_succ]
    have h1 := sumT_le (m := m) (fun i hi => h i (by omega))
    have h2 := h m (by omega)
    omega
theorem sumT_front (f : Nat → Int) : ∀ m : Nat, sumT f (m + 1) = f 0 + sumT (fun i => f (i + 1)) m
  | 0 => by simp [sumT]
  | m + 1 => by rw [sumT_succ, sumT_front f m, sumT_succ]; omega
theorem sumT_rev (f : Nat → Int) : ∀ m : Nat, sumT (fun i => f (m - 1 - i)) m = sumT f m
  | 0 => rfl
  | m + 1 => by
    rw [sumT_front, sumT_succ]
    have e : sumT (fun i => f (m + 1 - 1 - (i + 1))) m = sumT (fun i => f (m - 1 - i)) m := sumT_congr (fun i hi => by rw [show m + 1 - 1 - (i + 1) = m - 1 - i by omega])
    rw [e, sumT_rev f m, show m + 1 - 1 - 0 = m by omega]
    omega
theorem sumT_add (f g : Nat → Int) : ∀ m : Nat, sumT (fun i => f i + g i) m = sumT f m + sumT g m
  | 0 => rfl
  | m + 1 => by rw [sumT_succ, sumT_succ, sumT_succ, sumT_add f g m]; omega
theorem sumT_split (f : Nat → Int) (a : Nat) : ∀ b : Nat, sumT f (a + b) = sumT f a + sumT (fun i => f (a + i)) b
  | 0 => by simp [sumT]
  | b + 1 => by rw [show a + (b + 1) = a + b + 1 from rfl, sumT_succ, sumT_split f a b, sumT_succ]; omega
theorem sumT_nonneg {f : Nat → Int} : ∀ {m : Nat}, (∀ i, i < m → 0 ≤ f i) → 0 ≤ sumT f m
  | 0, _ => Int.le_refl _
  | m + 1, h => by
    rw [sumT_succ]
    have h1 := sumT_nonneg (m := m) (fun i hi => h i (by omega))
    have h2 := h m (by omega)
    omega
theorem sumT_bd {f : Nat → Int} {A : Int} : ∀ {m : Nat}, (∀ i, i < m → -A ≤ f i ∧ f i ≤ A) → -(A * m) ≤ sumT f m ∧ sumT f m ≤ A * m
  | 0, _ => by simp [sumT]
  | m + 1, h => by
    have h1 := sumT_bd (m := m) (fun i hi => h i (by omega))
    have h2 := h m (by omega)
    rw [sumT_succ, Int.natCast_add, Int.mul_add]
    simp only [Int.natCast_one, Int.mul_one]
    omega
/-- sums of products -/
def dotT (xs ys : List Int) (m : Nat) : Int := sumT (fun i => xs.getD i 0 * ys.getD i 0) m
theorem dotT_0 (xs ys : List Int) : dotT xs ys 0 = 0 := rfl
theorem dotT_succ (xs ys : List Int) (m : Nat) : dotT xs ys (m + 1) = dotT xs ys m + xs.getD m 0 * ys.getD m 0 := rfl
theorem dotT_comm (xs ys : List Int) (m : Nat) : dotT xs ys m = dotT ys xs m := sumT_congr (fun i _ => Int.mul_comm _ _)
theorem getD_drop (zs : List Int) (k i : Nat) : (zs.drop k).getD i 0 = zs.getD (k + i) 0 := by
  rw [List.getD_eq_getElem?_getD, List.getElem?_drop, List.getD_eq_getElem?_getD]
/-- all numbers are small -/
def smlL (A : Int) (zs : List Int) : Prop := ∀ i, -A ≤ zs.getD i 0 ∧ zs.getD i 0 ≤ A
theorem smlL_drop {A : Int} {zs : List Int} (h : smlL A zs) (k : Nat) : smlL A (zs.drop k) := fun i => by rw [getD_drop]; exact h _
theorem prod_bd {x y : Int} (h1 : -1000 ≤ x ∧ x ≤ 1000) (h2 : -1000 ≤ y ∧ y ≤ 1000) : -1000000 ≤ x * y ∧ x * y ≤ 1000000 := by
  have := mul_abs (a := x) (n := y) (A := 1000) (N := 1000) (by omega) (by omega)
  omega
theorem dotT_bd {xs ys : List Int} (h1 : smlL 1000 xs) (h2 : smlL 1000 ys) (m : Nat) : -(1000000 * (m : Int)) ≤ dotT xs ys m ∧ dotT xs ys m ≤ 1000000 * (m : Int) :=
  sumT_bd (fun i _ => prod_bd (h1 i) (h2 i))
/-- a signal -/
def sigB (zs : List Int) : Bool := decide (zs.length ≤ 400) && !anyLack (-1000) 1000 zs
theorem getD_outP {zs : List Int} {i : Nat} (h : ¬ i < zs.length) : zs.getD i 0 = 0 := by
  rw [List.getD_eq_getElem?_getD, List.getElem?_eq_none (by omega)]; rfl
theorem anyLack_all {lo hi : Int} {zs : List Int} (h : anyLack lo hi zs = false) {k : Nat} (hk : k < zs.length) : lo ≤ zs.getD k 0 ∧ zs.getD k 0 ≤ hi := by
  cases hh : hasB lo hi (zs.getD k 0)
  · rw [anyLack_t hk hh] at h; cases h
  · unfold hasB at hh
    simp only [Bool.and_eq_true, decide_eq_true_eq] at hh
    exact hh
theorem anyLack_sml {A : Int} {zs : List Int} (hA : 0 ≤ A) (h : anyLack (-A) A zs = false) : smlL A zs := fun i => by
  by_cases hi : i < zs.length
  · exact anyLack_all h hi
  · rw [getD_outP hi]; omega
theorem sigB_t {zs : List Int} (h : sigB zs = true) : zs.length ≤ 400 ∧ smlL 1000 zs := by
  unfold sigB at h
  simp only [Bool.and_eq_true, decide_eq_true_eq, Bool.not_eq_true'] at h
  exact ⟨h.1, anyLack_sml (by decide) h.2⟩
theorem sigB_mk {zs : List Int} (h : zs.length ≤ 400) (h2 : ∀ i, i < zs.length → -1000 ≤ zs.getD i 0 ∧ zs.getD i 0 ≤ 1000) : sigB zs = true := by
  unfold sigB
  rw [decide_eq_true h, anyLack_f (fun k hk => by unfold hasB; rw [decide_eq_true (h2 k hk).1, decide_eq_true (h2 k hk).2]; rfl)]
  rfl
/-- the correlation at a shift -/
def cor (zs : List Int) (k : Nat) : Int := dotT (zs.drop k) zs (zs.length - k)
theorem cor_bd {zs : List Int} (h : smlL 1000 zs) (hl : zs.length ≤ 400) (k : Nat) : -400000000 ≤ cor zs k ∧ cor zs k ≤ 400000000 := by
  have := dotT_bd (smlL_drop h k) h (zs.length - k)
  unfold cor
  omega
/-- the correlations -/
def corL (zs : List Int) (n : Nat) : List Int := (List.range n).map (cor zs)
theorem corL_len (zs : List Int) (n : Nat) : (corL zs n).length = n := by simp [corL]
theorem corL_succ (zs : List Int) (n : Nat) : corL zs (n + 1) = corL zs n ++ [cor zs n] := by simp [corL, List.range_succ]
theorem corL_at (zs : List Int) {n k : Nat} (h : k < n) : (corL zs n).getD k 0 = cor zs k := by
  unfold corL
  rw [List.getD_eq_getElem?_getD, List.getElem?_map, List.getElem?_range h]
  rfl
/-- the sidelobe -/
def sideT (zs : List Int) : Nat → Int | 0 => 0 | k + 1 => if sideT zs k < ((cor zs (k + 1)).natAbs : Int) then ((cor zs (k + 1)).natAbs : Int) else sideT zs k
theorem sideT_succ (zs : List Int) (k : Nat) : sideT zs (k + 1) = if sideT zs k < ((cor zs (k + 1)).natAbs : Int) then ((cor zs (k + 1)).natAbs : Int) else sideT zs k := rfl
def sideV (zs : List Int) : Int := sideT zs (zs.length - 1)
theorem sideT_bd {zs : List Int} {A : Int} (hA : 0 ≤ A) (h : ∀ k, 0 < k → ((cor zs k).natAbs : Int) ≤ A) : ∀ k, 0 ≤ sideT zs k ∧ sideT zs k ≤ A
  | 0 => ⟨Int.le_refl _, hA⟩
  | k + 1 => by
    have h1 := sideT_bd hA h k
    have h2 := h (k + 1) (by omega)
    rw [sideT_succ]
    split <;> omega
theorem sideT_ge (zs : List Int) : ∀ k j : Nat, 0 < j → j ≤ k → ((cor zs j).natAbs : Int) ≤ sideT zs k
  | 0, j, h0, hj => by omega
  | k + 1, j, h0, hj => by
    rw [sideT_succ]
    by_cases e : j = k + 1
    · subst e; split <;> omega
    · have := sideT_ge zs k j h0 (by omega)
      split <;> omega
theorem sideT_lt {zs : List Int} {A : Int} (h0 : 0 < A) (h : ∀ k, 0 < k → k < zs.length → ((cor zs k).natAbs : Int) < A) : ∀ k, k < zs.length → sideT zs k < A
  | 0, _ => h0
  | k + 1, hk => by
    have h1 := sideT_lt h0 h k (by omega)
    have h2 := h (k + 1) (by omega) hk
    rw [sideT_succ]
    split <;> omega
/-- no correlation is greater than the energy -/
theorem sq2 (x y : Int) : 2 * (x * y) ≤ x * x + y * y ∧ -(x * x + y * y) ≤ 2 * (x * y) := by
  have h1 : 0 ≤ (x - y) * (x - y) := by rcases Int.le_total 0 (x - y) with h | h; exact Int.mul_nonneg h h; exact Int.mul_nonneg_of_nonpos_of_nonpos h h
  have h2 : 0 ≤ (x + y) * (x + y) := by rcases Int.le_total 0 (x + y) with h | h; exact Int.mul_nonneg h h; exact Int.mul_nonneg_of_nonpos_of_nonpos h h
  have e1 : (x - y) * (x - y) = x * x - 2 * (x * y) + y * y := by rw [Int.sub_mul, Int.mul_sub, Int.mul_sub, Int.mul_comm y x]; omega
  have e2 : (x + y) * (x + y) = x * x + 2 * (x * y) + y * y := by rw [Int.add_mul, Int.mul_add, Int.mul_add, Int.mul_comm y x]; omega
  omega
theorem sq_nonneg (x : Int) : 0 ≤ x * x := by rcases Int.le_total 0 x with h | h; exact Int.mul_nonneg h h; exact Int.mul_nonneg_of_nonpos_of_nonpos h h
theorem dot_two (xs ys : List Int) : ∀ m : Nat, 2 * dotT xs ys m ≤ dotT xs xs m + dotT ys ys m ∧ -(dotT xs xs m + dotT ys ys m) ≤ 2 * dotT xs ys m
  | 0 => by simp [dotT, sumT]
  | m + 1 => by
    have h1 := dot_two xs ys m
    have h2 := sq2 (xs.getD m 0) (ys.getD m 0)
    rw [dotT_succ, dotT_succ, dotT_succ]
    omega
theorem dot_mono (xs : List Int) (a b : Nat) : dotT xs xs a ≤ dotT xs xs (a + b) := by
  unfold dotT
  rw [sumT_split]
  have := sumT_nonneg (f := fun i => xs.getD (a + i) 0 * xs.getD (a + i) 0) (m := b) (fun i _ => sq_nonneg _)
  omega
theorem cor_le (zs : List Int) {k : Nat} (hk : k ≤ zs.length) : ((cor zs k).natAbs : Int) ≤ cor zs 0 := by
  obtain ⟨m, hm⟩ : ∃ m, zs.length = k + m := ⟨zs.length - k, by omega⟩
  have e0 : cor zs 0 = dotT zs zs (k + m) := by unfold cor; rw [List.drop_zero, Nat.sub_zero, hm]
  have ek : cor zs k = dotT (zs.drop k) zs m := by unfold cor; rw [hm, Nat.add_sub_cancel_left]
  have h1 := dot_two (zs.drop k) zs m
  have h2 : dotT zs zs m ≤ dotT zs zs (k + m) := by rw [Nat.add_comm k m]; exact dot_mono _ _ _
  have h3 : dotT (zs.drop k) (zs.drop k) m ≤ dotT zs zs (k + m) := by
    unfold dotT
    rw [sumT_split (fun i => zs.getD i 0 * zs.getD i 0) k m]
    have e : sumT (fun i => (zs.drop k).getD i 0 * (zs.drop k).getD i 0) m = sumT (fun i => zs.getD (k + i) 0 * zs.getD (k + i) 0) m := sumT_congr (fun i _ => by rw [getD_drop])
    rw [e]
    have := sumT_nonneg (f := fun i => zs.getD i 0 * zs.getD i 0) (m := k) (fun i _ => sq_nonneg _)
    omega
  rw [e0, ek]
  omega
theorem cor_big {zs : List Int} {k : Nat} (hk : zs.length ≤ k) : cor zs k = 0 := by unfold cor; rw [show zs.length - k = 0 by omega]; rfl
theorem cor0_nonneg (zs : List Int) : 0 ≤ cor zs 0 := by
  have := cor_le zs (k := 0) (by omega)
  omega
theorem side_le (zs : List Int) : sideV zs ≤ cor zs 0 := (sideT_bd (cor0_nonneg zs) (fun k hk => by
  by_cases h : k ≤ zs.length
  · exact cor_le zs h
  · rw [cor_big (by omega)]; exact cor0_nonneg zs) _).2
theorem side_ge (zs : List Int) {k : Nat} (h0 : 0 < k) (hk : k < zs.length) : ((cor zs k).natAbs : Int) ≤ sideV zs := sideT_ge zs _ _ h0 (by omega)
theorem getD_rev (zs : List Int) {i : Nat} (h : i < zs.length) : zs.reverse.getD i 0 = zs.getD (zs.length - 1 - i) 0 := by
  rw [List.getD_eq_getElem?_getD, List.getD_eq_getElem?_getD, List.getElem?_reverse h]
/-- the opposite order has the same correlations -/
theorem cor_rev (zs : List Int) (k : Nat) : cor zs.reverse k = cor zs k := by
  by_cases hk : zs.length ≤ k
  · rw [cor_big (by simpa using hk), cor_big hk]
  obtain ⟨m, hm⟩ : ∃ m, zs.length = k + m := ⟨zs.length - k, by omega⟩
  unfold cor
  rw [List.length_reverse, hm, Nat.add_sub_cancel_left]
  unfold dotT
  rw [← sumT_rev (fun i => (zs.drop k).getD i 0 * zs.getD i 0) m]
  apply sumT_congr
  intro i hi
  rw [getD_drop, getD_drop, getD_rev zs (by omega), getD_rev zs (by omega), Int.mul_comm]
  congr 2 <;> omega
theorem corL_rev (zs : List Int) : corL zs.reverse zs.reverse.length = corL zs zs.length := by
  rw [List.length_reverse]
  unfold corL
  exact List.map_congr_left (fun k _ => cor_rev zs k)
theorem sigB_rev (zs : List Int) : sigB zs.reverse = sigB zs := by
  unfold sigB anyLack
  rw [List.length_reverse, List.any_reverse]
/-- the sample of a bit -/
def smp (a b : Int) : Int := if b = 0 then -a else a
theorem smp_0 (a : Int) : smp a 0 = -a := rfl
theorem smp_1 (a : Int) : smp a 1 = a := rfl
/-- the pulse of the first i bits, with j samples of the next one -/
def pulK (bs : List Int) (w : Nat) (a : Int) (i : Nat) : List Int := (bs.take i).flatMap (fun b => List.replicate w (smp a b))
def pulJ (bs : List Int) (w : Nat) (a : Int) (i j : Nat) : List Int := pulK bs w a i ++ List.replicate j (smp a (bs.getD i 0))
theorem pulK_0 (bs : List Int) (w : Nat) (a : Int) : pulK bs w a 0 = [] := rfl
theorem pulJ_0 (bs : List Int) (w : Nat) (a : Int) (i : Nat) : pulJ bs w a i 0 = pulK bs w a i := by simp [pulJ]
theorem pulJ_succ (bs : List Int) (w : Nat) (a : Int) (i j : Nat) : pulJ bs w a i (j + 1) = pulJ bs w a i j ++ [smp a (bs.getD i 0)] := by
  unfold pulJ
  rw [List.replicate_succ', List.append_assoc]
theorem take_snocP {zs : List Int} {k : Nat} (hk : k < zs.length) : zs.take (k + 1) = zs.take k ++ [zs.getD k 0] := by
  rw [List.take_succ_eq_append_getElem hk, List.getD_eq_getElem?_getD, List.getElem?_eq_getElem hk]; rfl
theorem pulJ_end {bs : List Int} {i : Nat} (w : Nat) (a : Int) (h : i < bs.length) : pulJ bs w a i w = pulK bs w a (i + 1) := by
  unfold pulJ pulK
  rw [take_snocP h, List.flatMap_append]
  simp
theorem pulK_len {bs : List Int} (w : Nat) (a : Int) : ∀ {i : Nat}, i ≤ bs.length → (pulK bs w a i).length = i * w
  | 0, _ => by simp [pulK]
  | i + 1, h => by
    rw [← pulJ_end w a (by omega)]
    unfold pulJ
    rw [List.length_append, pulK_len w a (by omega), List.length_replicate, Nat.succ_mul]
theorem pulJ_len {bs : List Int} (w : Nat) (a : Int) {i : Nat} (j : Nat) (h : i ≤ bs.length) : (pulJ bs w a i j).length = i * w + j := by
  unfold pulJ
  rw [List.length_append, pulK_len w a h, List.length_replicate]
/-- a list of a function's values, one of them set -/
theorem map_setP (g : Nat → Int) (v : Int) (n k : Nat) : ((List.range n).map g).set k v = (List.range n).map (fun i => if i = k then v else g i) := by
  apply List.ext_getElem (by simp)
  intro i h1 h2
  rw [List.getElem_set]
  simp only [List.getElem_map, List.getElem_range]
  by_cases e : k = i
  · rw [if_pos e, if_pos e.symm]
  · rw [if_neg e, if_neg (fun h => e h.symm)]
theorem map_getD (g : Nat → Int) {n k : Nat} (h : k < n) : ((List.range n).map g).getD k 0 = g k := by
  rw [List.getD_eq_getElem?_getD, List.getElem?_map, List.getElem?_range h]
  rfl
theorem list_map (zs : List Int) : zs = (List.range zs.length).map (fun i => zs.getD i 0) := by
  apply List.ext_getElem (by simp)
  intro i h1 h2
  simp only [List.getElem_map, List.getElem_range, List.getD_eq_getElem?_getD, List.getElem?_eq_getElem h1, Option.getD_some]
/-- the correlations up to k, zeros behind -/
def corP (zs : List Int) (n k : Nat) : List Int := (List.range n).map (fun i => if i < k then cor zs i else 0)
theorem corP_0 (zs : List Int) (n : Nat) : corP zs n 0 = List.replicate n 0 := by
  unfold corP
  apply List.ext_getElem (by simp)
  intro i h1 h2
  simp
theorem corP_len (zs : List Int) (n k : Nat) : (corP zs n k).length = n := by simp [corP]
theorem corP_set (zs : List Int) (n k : Nat) : (corP zs n k).set k (cor zs k) = corP zs n (k + 1) := by
  unfold corP
  rw [map_setP]
  apply List.map_congr_left
  intro i _
  by_cases e : i = k
  · subst e; rw [if_pos rfl, if_pos (by omega)]
  · rw [if_neg e]
    by_cases h : i < k
    · rw [if_pos h, if_pos (by omega)]
    · rw [if_neg h, if_neg (by omega)]
theorem corP_end (zs : List Int) (n : Nat) : corP zs n n = corL zs n := by
  unfold corP corL
  apply List.map_congr_left
  intro i hi
  rw [if_pos (List.mem_range.1 hi)]
/-- a list turned up to i from both ends -/
def revP (zs : List Int) (i : Nat) : List Int := (List.range zs.length).map (fun k => if k < i ∨ zs.length - 1 - i < k then zs.getD (zs.length - 1 - k) 0 else zs.getD k 0)
theorem revP_len (zs : List Int) (i : Nat) : (revP zs i).length = zs.length := by simp [revP]
theorem revP_0 (zs : List Int) : revP zs 0 = zs := by
  conv => rhs; rw [list_map zs]
  unfold revP
  apply List.map_congr_left
  intro k hk
  have := List.mem_range.1 hk
  rw [if_neg (by omega)]
theorem revP_at (zs : List Int) {i k : Nat} (hk : k < zs.length) (h1 : i ≤ k) (h2 : k ≤ zs.length - 1 - i) : (revP zs i).getD k 0 = zs.getD k 0 := by
  unfold revP
  rw [map_getD _ hk, if_neg (by omega)]
theorem revP_set {zs : List Int} {i : Nat} (h : i < zs.length - 1 - i) : ((revP zs i).set i (zs.getD (zs.length - 1 - i) 0)).set (zs.length - 1 - i) (zs.getD i 0) = revP zs (i + 1) := by
  unfold revP
  rw [map_setP, map_setP]
  apply List.map_congr_left
  intro k hk
  have hk := List.mem_range.1 hk
  by_cases e1 : k = zs.length - 1 - i
  · subst e1
    rw [if_pos rfl, if_pos (by omega), show zs.length - 1 - (zs.length - 1 - i) = i by omega]
  · rw [if_neg e1]
    by_cases e2 : k = i
    · subst e2; rw [if_pos rfl, if_pos (by omega)]
    · rw [if_neg e2]
      by_cases e3 : k < i ∨ zs.length - 1 - i < k
      · rw [if_pos e3, if_pos (by omega)]
      · rw [if_neg e3, if_neg (by omega)]
theorem revP_end {zs : List Int} {i : Nat} (h : zs.length - 1 - i ≤ i) : revP zs i = zs.reverse := by
  unfold revP
  apply List.ext_getElem (by simp)
  intro k h1 h2
  have hk : k < zs.length := by simpa using h1
  simp only [List.getElem_map, List.getElem_range, List.getElem_reverse]
  by_cases e : k < i ∨ zs.length - 1 - i < k
  · rw [if_pos e, List.getD_eq_getElem?_getD, List.getElem?_eq_getElem (by omega)]; rfl
  · rw [if_neg e, List.getD_eq_getElem?_getD, List.getElem?_eq_getElem hk]
    have : k = zs.length - 1 - k := by omega
    simp only [Option.getD_some]
    congr 1
/-- the elements from the last one down, k of them -/
def dwnP (zs : List Int) (k : Nat) : List Int := (List.range k).map (fun i => zs.getD (zs.length - 1 - i) 0)
theorem dwnP_len (zs : List Int) (k : Nat) : (dwnP zs k).length = k := by simp [dwnP]
theorem dwnP_succ (zs : List Int) (k : Nat) : dwnP zs (k + 1) = dwnP zs k ++ [zs.getD (zs.length - 1 - k) 0] := by simp [dwnP, List.range_succ]
theorem dwnP_end (zs : List Int) : dwnP zs zs.length = zs.reverse := by
  unfold dwnP
  apply List.ext_getElem (by simp)
  intro k h1 h2
  have hk : k < zs.length := by simpa using h1
  simp only [List.getElem_map, List.getElem_range, List.getElem_reverse]
  rw [List.getD_eq_getElem?_getD, List.getElem?_eq_getElem (by omega)]; rfl
/-- k samples of an echo added -/
def addE (S : List Int) (d : Nat) (g : Int) (ps : List Int) : Nat → List Int
  | 0 => S
  | k + 1 => (addE S d g ps k).set (d + k) ((addE S d g ps k).getD (d + k) 0 + g * ps.getD k 0)
theorem addE_succ (S : List Int) (d : Nat) (g : Int) (ps : List Int) (k : Nat) : addE S d g ps (k + 1) = (addE S d g ps k).set (d + k) ((addE S d g ps k).getD (d + k) 0 + g * ps.getD k 0) := rfl
theorem addE_len (S : List Int) (d : Nat) (g : Int) (ps : List Int) : ∀ k : Nat, (addE S d g ps k).length = S.length
  | 0 => rfl
  | k + 1 => by rw [addE_succ, List.length_set, addE_len S d g ps k]
/-- the first i echoes added -/
def ecT (n : Nat) (ps ds gs : List Int) : Nat → List Int
  | 0 => List.replicate n 0
  | i + 1 => addE (ecT n ps ds gs i) (ds.getD i 0).toNat (gs.getD i 0) ps ps.length
theorem ecT_succ (n : Nat) (ps ds gs : List Int) (i : Nat) : ecT n ps ds gs (i + 1) = addE (ecT n ps ds gs i) (ds.getD i 0).toNat (gs.getD i 0) ps ps.length := rfl
theorem ecT_len (n : Nat) (ps ds gs : List Int) : ∀ i : Nat, (ecT n ps ds gs i).length = n
  | 0 => by simp [ecT]
  | i + 1 => by rw [ecT_succ, addE_len, ecT_len n ps ds gs i]
theorem getD_setP (L : List Int) (i j : Nat) (v : Int) : (L.set i v).getD j 0 = if i = j ∧ j < L.length then v else L.getD j 0 := by
  rw [List.getD_eq_getElem?_getD, List.getElem?_set, List.getD_eq_getElem?_getD]
  by_cases e : i = j
  · subst e
    by_cases h : i < L.length
    · simp [h]
    · simp [h]
  · simp [e]
theorem addE_bd {S : List Int} {A : Int} (d : Nat) {g : Int} {ps : List Int} (hg : -1000 ≤ g ∧ g ≤ 1000) (hp : smlL 1000 ps) (hS : smlL A S) : ∀ k : Nat, smlL (A + 1000000) (addE S d g ps k) ∧ ∀ j, d + k ≤ j → -A ≤ (addE S d g ps k).getD j 0 ∧ (addE S d g ps k).getD j 0 ≤ A
  | 0 => ⟨fun i => by have := hS i; unfold addE; omega, fun j _ => hS j⟩
  | k + 1 => by
    obtain ⟨h1, h2⟩ := addE_bd d hg hp hS k
    have h3 := h2 (d + k) (Nat.le_refl _)
    have h4 := prod_bd hg (hp k)
    rw [addE_succ]
    refine ⟨fun i => ?_, fun j hj => ?_⟩
    · rw [getD_setP]
      split
      · omega
      · exact h1 i
    · rw [getD_setP, if_neg (by omega)]
      exact h2 j (by omega)
theorem ecT_bd {ps gs : List Int} (n : Nat) (ds : List Int) (hg : smlL 1000 gs) (hp : smlL 1000 ps) : ∀ i : Nat, smlL (1000000 * (i : Int)) (ecT n ps ds gs i)
  | 0 => fun j => by
    unfold ecT
    rw [List.getD_eq_getElem?_getD, List.getElem?_replicate]
    split <;> simp
  | i + 1 => by
    have h := (addE_bd (ds.getD i 0).toNat (hg i) hp (ecT_bd n ds hg hp i) ps.length).1
    rw [ecT_succ]
    intro j
    have := h j
    omega
end Go.Proofs.Ytlahgdhofakinaa
