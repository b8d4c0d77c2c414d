/- What both sides compute of the best code: lists of bits in their order, the least sidelobe. -/
import Derived.Test.YtpnebnjpeiieaaaPuM
namespace Go.Proofs.Ytpnebnjpeiieaaa
open Go.ChangeShapes Go.WideShapes Go.ChangeAt Go.RowKit
set_option linter.unusedVariables false
/-- the sidelobe of bits -/
def sdB (bs : List Int) : Int := sideV (pulK bs 1 1 bs.length)
/-- one list of bits more -/
def stP (st : List Int × Int) (bs : List Int) : List Int × Int := if sdB bs < st.2 then (bs, sdB bs) else st
def stM (st : List Int × Int) (bs : List Int) : List Int × Int := if st.2 < 0 ∨ sdB bs < st.2 then (bs, sdB bs) else st
/-- the search behind a prefix -/
def srch : Nat → List Int → List Int × Int → List Int × Int
  | 0, p, st => stP st p
  | r + 1, p, st => srch r (p ++ [1]) (srch r (p ++ [0]) st)
theorem srch_0 (p : List Int) (st : List Int × Int) : srch 0 p st = stP st p := rfl
theorem srch_succ (r : Nat) (p : List Int) (st : List Int × Int) : srch (r + 1) p st = srch r (p ++ [1]) (srch r (p ++ [0]) st) := rfl
def lexL : Nat → List Int → List (List Int)
  | 0, p => [p]
  | r + 1, p => lexL r (p ++ [0]) ++ lexL r (p ++ [1])
theorem srch_fold : ∀ (r : Nat) (p : List Int) (st : List Int × Int), srch r p st = (lexL r p).foldl stP st
  | 0, p, st => rfl
  | r + 1, p, st => by rw [srch_succ, srch_fold r, srch_fold r, lexL, List.foldl_append]
/-- the bits of a code, the first k of n -/
def cbK (n : Nat) (c : Nat) (k : Nat) : List Int := (List.range k).map (fun j => (((c / 2 ^ (n - 1 - j)) % 2 : Nat) : Int))
theorem cbK_0 (n c : Nat) : cbK n c 0 = [] := rfl
theorem cbK_len (n c k : Nat) : (cbK n c k).length = k := by simp [cbK]
theorem cbK_succ (n c k : Nat) : cbK n c (k + 1) = cbK n c k ++ [(((c / 2 ^ (n - 1 - k)) % 2 : Nat) : Int)] := by simp [cbK, List.range_succ]
theorem cb_front (r c : Nat) : cbK (r + 1) c (r + 1) = (((c / 2 ^ r) % 2 : Nat) : Int) :: cbK r c r := by
  unfold cbK
  rw [List.range_succ_eq_map, List.map_cons, List.map_map]
  congr 1
  apply List.map_congr_left
  intro j hj
  have := List.mem_range.1 hj
  simp only [Function.comp]
  rw [show r + 1 - 1 - (j + 1) = r - 1 - j by omega]
theorem cb_high (r c : Nat) : cbK r (2 ^ r + c) r = cbK r c r := by
  unfold cbK
  apply List.map_congr_left
  intro j hj
  have hj := List.mem_range.1 hj
  have e : 2 ^ r = 2 * 2 ^ j * 2 ^ (r - 1 - j) := by
    rw [show 2 * 2 ^ j = 2 ^ (j + 1) by rw [Nat.pow_succ, Nat.mul_comm], ← Nat.pow_add, show j + 1 + (r - 1 - j) = r by omega]
  have : (2 ^ r + c) / 2 ^ (r - 1 - j) = 2 * 2 ^ j + c / 2 ^ (r - 1 - j) := by
    rw [e, Nat.mul_comm (2 * 2 ^ j), Nat.mul_add_div (Nat.two_pow_pos _)]
  rw [this]
  congr 1
  omega
theorem lexL_codes : ∀ (r : Nat) (p : List Int), lexL r p = (List.range (2 ^ r)).map (fun c => p ++ cbK r c r)
  | 0, p => by simp [lexL, cbK]
  | r + 1, p => by
    rw [lexL, lexL_codes r, lexL_codes r, Nat.pow_succ, Nat.mul_comm, Nat.two_mul, List.range_add, List.map_append, List.map_map]
    congr 1
    · apply List.map_congr_left
      intro c hc
      have hc := List.mem_range.1 hc
      rw [cb_front, Nat.div_eq_of_lt hc, List.append_assoc]
      rfl
    · apply List.map_congr_left
      intro c hc
      have hc := List.mem_range.1 hc
      simp only [Function.comp]
      rw [cb_front, cb_high, Nat.add_div_left _ (Nat.two_pow_pos _), Nat.div_eq_of_lt hc, List.append_assoc]
      rfl
/-- the model's state behind the first c codes -/
def mdl (n : Nat) : Nat → List Int × Int
  | 0 => ([], -1)
  | c + 1 => stM (mdl n c) (cbK n c n)
theorem mdl_0 (n : Nat) : mdl n 0 = ([], -1) := rfl
theorem mdl_succ (n c : Nat) : mdl n (c + 1) = stM (mdl n c) (cbK n c n) := rfl
theorem mdl_fold (n : Nat) : ∀ c : Nat, mdl n c = ((List.range c).map (fun c => cbK n c n)).foldl stM ([], -1)
  | 0 => rfl
  | c + 1 => by rw [mdl_succ, mdl_fold n c, List.range_succ, List.map_append, List.foldl_append]; rfl
theorem sideT_nn (zs : List Int) : ∀ k, 0 ≤ sideT zs k
  | 0 => Int.le_refl _
  | k + 1 => by
    have := sideT_nn zs k
    rw [sideT_succ]
    split <;> omega
theorem sdB_nn (bs : List Int) : 0 ≤ sdB bs := sideT_nn _ _
theorem fold_same : ∀ (L : List (List Int)) (st : List Int × Int), 0 ≤ st.2 → L.foldl stM st = L.foldl stP st
  | [], st, _ => rfl
  | b :: L, st, h => by
    have e : stM st b = stP st b := by
      unfold stM stP
      by_cases g : sdB b < st.2
      · rw [if_pos g, if_pos (Or.inr g)]
      · rw [if_neg g, if_neg (by omega)]
    rw [List.foldl_cons, List.foldl_cons, e]
    apply fold_same
    unfold stP
    split
    · exact sdB_nn b
    · exact h
/-- bits have samples 1 and -1 -/
def bitP (bs : List Int) : Prop := ∀ i, i < bs.length → bs.getD i 0 = 0 ∨ bs.getD i 0 = 1
theorem bitP_snoc {bs : List Int} {x : Int} (h : bitP bs) (hx : x = 0 ∨ x = 1) : bitP (bs ++ [x]) := fun i hi => by
  rw [List.length_append, List.length_singleton] at hi
  rw [List.getD_eq_getElem?_getD]
  by_cases e : i < bs.length
  · rw [List.getElem?_append_left e, ← List.getD_eq_getElem?_getD]; exact h i e
  · rw [List.getElem?_append_right (by omega), show i - bs.length = 0 by omega]; simpa using hx
theorem pul1 {bs : List Int} : ∀ {k : Nat}, k ≤ bs.length → pulK bs 1 1 k = (List.range k).map (fun i => smp 1 (bs.getD i 0))
  | 0, _ => rfl
  | k + 1, h => by
    rw [← pulJ_end 1 1 (show k < bs.length by omega)]
    unfold pulJ
    rw [pul1 (by omega), List.range_succ, List.map_append]
    rfl
theorem pul1_sml (bs : List Int) : smlL 1 (pulK bs 1 1 bs.length) := fun i => by
  rw [pul1 (Nat.le_refl _)]
  by_cases h : i < bs.length
  · rw [map_getD _ h]
    unfold smp
    split <;> omega
  · rw [List.getD_eq_getElem?_getD, List.getElem?_eq_none (by simp; omega)]
    decide
theorem dot1_bd {xs ys : List Int} (h1 : smlL 1 xs) (h2 : smlL 1 ys) (m : Nat) : -(1 * (m : Int)) ≤ dotT xs ys m ∧ dotT xs ys m ≤ 1 * (m : Int) :=
  sumT_bd (fun i _ => by
    have := mul_abs (a := xs.getD i 0) (n := ys.getD i 0) (A := 1) (N := 1) (by have := h1 i; omega) (by have := h2 i; omega)
    omega)
theorem sdB_lt {bs : List Int} (h : bs.length ≤ 10) : sdB bs < 10 := by
  unfold sdB sideV
  have hl : (pulK bs 1 1 bs.length).length = bs.length := by rw [pulK_len _ _ (Nat.le_refl _), Nat.mul_one]
  by_cases h0 : bs.length = 0
  · rw [hl, h0]; exact (by decide : (0 : Int) < 10)
  · refine sideT_lt (by decide) (fun k hk hkl => ?_) _ (by rw [hl]; omega)
    rw [hl] at hkl
    have hb := dot1_bd (smlL_drop (pul1_sml bs) k) (pul1_sml bs) ((pulK bs 1 1 bs.length).length - k)
    unfold cor
    rw [hl] at hb ⊢
    omega
theorem mem_lex {r : Nat} {p b : List Int} (h : b ∈ lexL r p) : b.length = p.length + r := by
  rw [lexL_codes] at h
  obtain ⟨c, _, rfl⟩ := List.mem_map.1 h
  rw [List.length_append, cbK_len]
/-- both sides find the same list -/
theorem best_same {n : Nat} (hn : n ≤ 10) : srch n [] ([], 10) = mdl n (2 ^ n) := by
  rw [srch_fold, mdl_fold]
  have e : lexL n [] = (List.range (2 ^ n)).map (fun c => cbK n c n) := by rw [lexL_codes]; rfl
  rw [← e]
  have hne : lexL n [] ≠ [] := by
    intro h
    rw [e] at h
    have := congrArg List.length h
    simp at this
  have hm : ∀ b ∈ lexL n [], sdB b < 10 := fun b hb => sdB_lt (by rw [mem_lex hb]; simpa using hn)
  cases hL : lexL n [] with
  | nil => exact absurd hL hne
  | cons b L =>
    rw [List.foldl_cons, List.foldl_cons]
    have h1 : stP ([], 10) b = (b, sdB b) := by unfold stP; rw [if_pos (hm b (by rw [hL]; exact List.mem_cons_self ..))]
    have h2 : stM ([], -1) b = (b, sdB b) := by unfold stM; rw [if_pos (Or.inl (by decide))]
    rw [h1, h2, fold_same _ _ (sdB_nn b)]
end Go.Proofs.Ytpnebnjpeiieaaa
