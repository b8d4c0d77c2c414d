/- What both sides of chapter 13 compute: tails, thresholds, confirmed patterns. Plain facts about integers and lists. -/
import Derived.Test.YtgdnapioboodbaaPrs
namespace Go.Proofs.Ytgdnapioboodbaa
open Num
set_option linter.unusedVariables false
set_option linter.unusedSimpArgs false
def pw : Nat → Int
  | 0 => 1
  | n + 1 => 16 * pw n
def exN (a : Int) : Nat → Int → Int
  | 0, k => if k = 0 then 1 else 0
  | n + 1, k => if k < 0 ∨ (n : Int) + 1 < k then 0 else a * exN a n (k - 1) + (16 - a) * exN a n k
def tl (a : Int) : Nat → Int → Int
  | 0, m => if m ≤ 0 then 1 else 0
  | n + 1, m => if m ≤ 0 then 16 * pw n else a * tl a n (m - 1) + (16 - a) * tl a n m
theorem pw_succ (n : Nat) : pw (n + 1) = 16 * pw n := rfl
theorem pw_pos (n : Nat) : 1 ≤ pw n := by
  induction n with
  | zero => exact Int.le_refl _
  | succ n ih => unfold pw; omega
theorem pw_le {n : Nat} (h : n ≤ 12) : pw n ≤ 281474976710656 := by
  have : ∀ k : Nat, k ≤ 12 → pw k ≤ 281474976710656 := by decide +kernel
  exact this n h
theorem tl_le {a : Int} (n : Nat) {m : Int} (h : m ≤ 0) : tl a n m = pw n := by
  cases n with
  | zero => unfold tl pw; rw [if_pos h]
  | succ n => unfold tl; rw [if_pos h]; rfl
theorem tl_top {a : Int} : ∀ (n : Nat) {m : Int}, (n : Int) < m → tl a n m = 0 := by
  intro n
  induction n with
  | zero => intro m h; unfold tl; rw [if_neg (by omega)]
  | succ n ih => intro m h; unfold tl; rw [if_neg (by omega), ih (by omega), ih (by omega)]; simp
theorem tl_succ {a : Int} (n : Nat) {m : Int} (h : 0 < m) : tl a (n + 1) m = a * tl a n (m - 1) + (16 - a) * tl a n m := by
  rw [tl, if_neg (by omega)]
theorem exN_tl {a : Int} : ∀ (n : Nat) (k : Int), exN a n k = tl a n k - tl a n (k + 1) := by
  intro n
  induction n with
  | zero => intro k; unfold exN tl; split <;> split <;> split <;> omega
  | succ n ih =>
    intro k
    unfold exN
    by_cases h : k < 0 ∨ (n : Int) + 1 < k
    · rw [if_pos h]
      rcases h with h | h
      · rw [tl_le _ (by omega), tl_le _ (by omega)]; omega
      · rw [tl_top _ (by omega), tl_top _ (by omega)]; omega
    · rw [if_neg h, ih, ih, tl_succ n (m := k + 1) (by omega)]
      have e1 : k - 1 + 1 = k := by omega
      have e2 : k + 1 - 1 = k := by omega
      rw [e1, e2]
      by_cases hk : k = 0
      · subst hk
        rw [tl_le n (m := 0 - 1) (by omega), tl_le n (m := 0) (by omega), tl_le (n + 1) (m := 0) (by omega), pw_succ]
        clear ih
        grind
      · rw [tl_succ n (m := k) (by omega)]
        grind
theorem mulnn {a b : Int} (h : 0 ≤ a) (g : 0 ≤ b) : 0 ≤ a * b := Int.mul_nonneg h g
theorem tl_bd {a : Int} (h0 : 0 ≤ a) (h1 : a ≤ 16) : ∀ (n : Nat) (m : Int), 0 ≤ tl a n m ∧ tl a n m ≤ pw n := by
  intro n
  induction n with
  | zero => intro m; unfold tl pw; split <;> omega
  | succ n ih =>
    intro m
    unfold tl
    split
    · have := pw_pos n
      exact ⟨by omega, Int.le_refl _⟩
    · have a1 := ih (m - 1)
      have a2 := ih m
      have b1 := mulnn h0 a1.1
      have b2 := mulnn (a := 16 - a) (by omega) a2.1
      have c1 := Int.mul_le_mul_of_nonneg_left a1.2 h0
      have c2 := Int.mul_le_mul_of_nonneg_left (c := 16 - a) a2.2 (by omega)
      have e : a * pw n + (16 - a) * pw n = 16 * pw n := by clear ih a1 a2 b1 b2 c1 c2; grind
      rw [pw_succ]
      omega
theorem tl_anti {a : Int} (h0 : 0 ≤ a) (h1 : a ≤ 16) : ∀ (n : Nat) (m : Int), tl a n (m + 1) ≤ tl a n m := by
  intro n
  induction n with
  | zero => intro m; unfold tl; split <;> split <;> omega
  | succ n ih =>
    intro m
    by_cases hm : m + 1 ≤ 0
    · rw [tl_le _ hm, tl_le _ (by omega)]; exact Int.le_refl _
    · by_cases h2 : m ≤ 0
      · rw [tl_le _ h2]; exact (tl_bd h0 h1 (n + 1) (m + 1)).2
      · rw [tl_succ n (m := m + 1) (by omega), tl_succ n (m := m) (by omega)]
        have e2 : m + 1 - 1 = m := by omega
        have a1 := ih (m - 1)
        have e1 : m - 1 + 1 = m := by omega
        rw [e1] at a1
        rw [e2]
        exact Int.add_le_add (Int.mul_le_mul_of_nonneg_left a1 h0) (Int.mul_le_mul_of_nonneg_left (ih m) (by omega))
theorem tl_mono {a : Int} (h0 : 0 ≤ a) (h1 : a + 1 ≤ 16) : ∀ (n : Nat) (m : Int), tl a n m ≤ tl (a + 1) n m := by
  intro n
  induction n with
  | zero => intro m; unfold tl; exact Int.le_refl _
  | succ n ih =>
    intro m
    by_cases h2 : m ≤ 0
    · rw [tl_le _ h2, tl_le _ h2]; exact Int.le_refl _
    · rw [tl_succ n (by omega), tl_succ n (by omega)]
      have a1 := Int.mul_le_mul_of_nonneg_left (ih (m - 1)) h0
      have a2 := Int.mul_le_mul_of_nonneg_left (c := 16 - a) (ih m) (by omega)
      have a3 := tl_anti (a := a + 1) (by omega) h1 n (m - 1)
      have e1 : m - 1 + 1 = m := by omega
      rw [e1] at a3
      have e : (a + 1) * tl (a + 1) n (m - 1) + (16 - (a + 1)) * tl (a + 1) n m = a * tl (a + 1) n (m - 1) + (16 - a) * tl (a + 1) n m + (tl (a + 1) n (m - 1) - tl (a + 1) n m) := by grind
      omega
/-- the first number from m on at which P holds, within f steps -/
def lsF (P : Int → Bool) : Nat → Int → Int
  | 0, m => m
  | f + 1, m => if P m = true then m else lsF P f (m + 1)
theorem lsF_spec {P : Int → Bool} : ∀ (f : Nat) (m : Int), P (m + f) = true → P (lsF P f m) = true ∧ m ≤ lsF P f m ∧ lsF P f m ≤ m + f ∧ ∀ k, m ≤ k → k < lsF P f m → P k = false := by
  intro f
  induction f with
  | zero => intro m h; unfold lsF; simp at h; exact ⟨h, by omega, by omega, fun k h1 h2 => by omega⟩
  | succ f ih =>
    intro m h
    unfold lsF
    by_cases hm : P m = true
    · rw [if_pos hm]; exact ⟨hm, by omega, by omega, fun k h1 h2 => by omega⟩
    · rw [if_neg hm]
      obtain ⟨h1, h2, h3, h4⟩ := ih (m + 1) (by rw [show m + 1 + (f : Int) = m + ((f + 1 : Nat) : Int) by omega]; exact h)
      refine ⟨h1, by omega, by omega, fun k k1 k2 => ?_⟩
      by_cases hk : k = m
      · subst hk; simpa using hm
      · exact h4 k (by omega) k2
/-- the number of the greatest value, the least of equal ones: b so far, m next, f left -/
def bsF (D : Int → Int) : Nat → Int → Int → Int
  | 0, _, b => b
  | f + 1, m, b => bsF D f (m + 1) (if D b < D m then m else b)
theorem bsF_spec {D : Int → Int} : ∀ (f : Nat) (m b : Int), (∀ k, 0 ≤ k → k < m → D k ≤ D b) → ∀ k, 0 ≤ k → k < m + f → D k ≤ D (bsF D f m b) := by
  intro f
  induction f with
  | zero => intro m b h k k0 k1; unfold bsF; exact h k k0 (by omega)
  | succ f ih =>
    intro m b h k k0 k1
    unfold bsF
    refine ih (m + 1) _ (fun j j0 j1 => ?_) k k0 (by omega)
    by_cases hj : j = m
    · subst hj; split <;> omega
    · have := h j j0 (by omega)
      split <;> omega
theorem bsF_rng {D : Int → Int} : ∀ (f : Nat) (m b : Int), 0 ≤ b → b < m → 0 ≤ bsF D f m b ∧ bsF D f m b < m + f := by
  intro f
  induction f with
  | zero => intro m b h0 h1; unfold bsF; omega
  | succ f ih =>
    intro m b h0 h1
    unfold bsF
    have := ih (m + 1) (if D b < D m then m else b) (by split <;> omega) (by split <;> omega)
    omega
def thP (a : Int) (n : Nat) (num den m : Int) : Bool := decide (tl a n m * den ≤ num * pw n)
def thM (a : Int) (n : Nat) (num den : Int) : Int := lsF (thP a n num den) (n + 1) 0
theorem thP_top {a : Int} {n : Nat} {num den : Int} (h : 0 ≤ num) : thP a n num den (0 + ((n + 1 : Nat) : Int)) = true := by
  unfold thP
  rw [tl_top n (by omega), decide_eq_true_eq, Int.zero_mul]
  exact mulnn h (by have := pw_pos n; omega)
def dfD (p q : Int) (n : Nat) (m : Int) : Int := tl q n m - tl p n m
def bsM (p q : Int) (n : Nat) : Int := bsF (dfD p q n) (n + 1) 1 0
def trP (a num den n : Int) : Bool := decide (num * pw n.toNat ≤ tl a n.toNat 1 * den)
def trM (a num den : Int) : Int := lsF (trP a num den) 13 0
theorem prd48 {x y : Int} (h0 : 0 ≤ x) (h1 : x ≤ 281474976710656) (g0 : 0 ≤ y) (g1 : y ≤ 1000) : 0 ≤ x * y ∧ x * y ≤ 281474976710656000 := by
  have a := mulnn h0 g0
  have b := Int.mul_le_mul h1 g1 g0 (by omega)
  omega
-- the ranges of the arguments, and the answers
def scB (n : Int) : Bool := inB n 0 12
def chB (a : Int) : Bool := inB a 0 16
def frB (num den : Int) : Bool := inB den 1 1000 && inB num 0 den
def wiB (m w : Int) : Bool := inB w 1 12 && inB m 1 w
def ccT (n : Int) : Int × Int := if scB n then (pw n.toNat, 0) else (0, 2)
def tcB (n a m : Int) : Bool := scB n && chB a && inB m 0 (n + 1)
def tcT (n a m : Int) : Int × Int := if tcB n a m then (tl a n.toNat m, 0) else (0, 2)
def ltB (n a num den : Int) : Bool := scB n && chB a && frB num den
def ltT (n a num den : Int) : Int × Int := if ltB n a num den then (thM a n.toNat num den, 0) else (0, 2)
def btB (n p q : Int) : Bool := scB n && (chB p && chB q)
def btT (n p q : Int) : Int × Int := if btB n p q then (bsM p q n.toNat, 0) else (0, 2)
def trT (a num den : Int) : Int × Int := if chB a && frB num den then (if trM a num den < 13 then (trM a num den, 0) else (0, 4)) else (0, 2)
-- patterns
def preS (zs : List Int) : Nat → Int
  | 0 => 0
  | k + 1 => preS zs k + zs.getD k 0
theorem preS_succ (zs : List Int) (k : Nat) : preS zs (k + 1) = preS zs k + zs.getD k 0 := rfl
def winS (zs : List Int) (w i : Nat) : Int := preS zs (i + 1) - preS zs (i + 1 - w)
def cfF (zs : List Int) (m : Int) (w : Nat) : Nat → Nat → Int
  | 0, _ => -1
  | f + 1, i => if m ≤ winS zs w i then (i : Int) else cfF zs m w f (i + 1)
def cfS (zs : List Int) (m : Int) (w : Nat) : Int := cfF zs m w zs.length 0
def bitsL (zs : List Int) : Prop := ∀ j, zs.getD j 0 = 0 ∨ zs.getD j 0 = 1
theorem preS_bd {zs : List Int} (h : bitsL zs) : ∀ k, 0 ≤ preS zs k ∧ preS zs k ≤ k := by
  intro k
  induction k with
  | zero => unfold preS; omega
  | succ k ih => unfold preS; have := h k; omega
theorem preS_mono {zs : List Int} (h : bitsL zs) (k d : Nat) : preS zs k ≤ preS zs (k + d) := by
  induction d with
  | zero => exact Int.le_refl _
  | succ d ih => rw [← Nat.add_assoc, preS]; have := h (k + d); omega
theorem preS_congr {xs zs : List Int} : ∀ k, (∀ j, j < k → xs.getD j 0 = zs.getD j 0) → preS xs k = preS zs k := by
  intro k
  induction k with
  | zero => intro _; rfl
  | succ k ih => intro h; rw [preS, preS, ih (fun j hj => h j (by omega)), h k (by omega)]
theorem preS_shift {xs zs : List Int} {lo : Nat} : ∀ k, (∀ j, j < k → xs.getD j 0 = zs.getD (lo + j) 0) → preS xs k = preS zs (lo + k) - preS zs lo := by
  intro k
  induction k with
  | zero => intro _; simp [preS]
  | succ k ih => intro h; rw [← Nat.add_assoc, preS, preS, ih (fun j hj => h j (by omega)), h k (by omega)]; omega
theorem winS_congr {xs zs : List Int} (w i : Nat) (h : ∀ j, j < i + 1 → xs.getD j 0 = zs.getD j 0) : winS xs w i = winS zs w i := by
  unfold winS
  rw [preS_congr _ h, preS_congr _ (fun j hj => h j (by omega))]
/-- one scan further: the bit that comes, the bit that goes -/
theorem winS_zero (zs : List Int) (w : Nat) (hw : 1 ≤ w) : winS zs w 0 = zs.getD 0 0 := by
  unfold winS
  rw [show 0 + 1 - w = 0 by omega]
  simp [preS]
theorem winS_in (zs : List Int) (w i : Nat) (h : i + 1 < w) : winS zs w (i + 1) = winS zs w i + zs.getD (i + 1) 0 := by
  unfold winS
  rw [show i + 1 + 1 - w = 0 by omega, show i + 1 - w = 0 by omega, preS_succ zs (i + 1)]
  omega
theorem winS_out (zs : List Int) (w i : Nat) (hw : 1 ≤ w) (h : w ≤ i + 1) : winS zs w (i + 1) = winS zs w i + zs.getD (i + 1) 0 - zs.getD (i + 1 - w) 0 := by
  unfold winS
  rw [show i + 1 + 1 - w = (i + 1 - w) + 1 by omega, preS_succ zs (i + 1), preS_succ zs (i + 1 - w)]
  omega
theorem cfF_ge {zs : List Int} {m : Int} {w : Nat} : ∀ f i, cfF zs m w f i = -1 ∨ ((i : Int) ≤ cfF zs m w f i ∧ cfF zs m w f i < i + f) := by
  intro f
  induction f with
  | zero => intro i; left; rfl
  | succ f ih =>
    intro i
    unfold cfF
    split
    · right; omega
    · rcases ih (i + 1) with h | h
      · left; exact h
      · right; omega
/-- a pattern that is confirmed at k stays so whatever follows the first k + 1 bits -/
theorem cfF_stay {xs zs : List Int} {m : Int} {w : Nat} {k : Nat} (hx : ∀ j, j < k + 1 → xs.getD j 0 = zs.getD j 0) : ∀ f g i, cfF zs m w f i = (k : Int) → i + g = k + 2 → i ≤ k → cfF xs m w g i = (k : Int) := by
  intro f
  induction f with
  | zero => intro g i h; simp [cfF] at h
  | succ f ih =>
    intro g i h hg hi
    obtain ⟨g, rfl⟩ : ∃ q, g = q + 1 := ⟨g - 1, by omega⟩
    unfold cfF at h ⊢
    rw [winS_congr w i (fun j hj => hx j (by omega))]
    split at h
    · rw [if_pos (by assumption)]; exact h
    · rw [if_neg (by assumption)]
      rcases cfF_ge (zs := zs) (m := m) (w := w) f (i + 1) with e | e
      · omega
      · exact ih g (i + 1) h (by omega) (by omega)
theorem cfS_stay {zs : List Int} {m : Int} {w k : Nat} (h : cfS zs m w = (k : Int)) : k < zs.length ∧ cfS (zs.take (k + 1) ++ [0]) m w = (k : Int) := by
  have hk : k < zs.length := by
    unfold cfS at h
    rcases cfF_ge (zs := zs) (m := m) (w := w) zs.length 0 with e | e <;> omega
  refine ⟨hk, ?_⟩
  unfold cfS at h ⊢
  refine cfF_stay (zs := zs) (fun j hj => ?_) _ _ _ h ?_ (by omega)
  · rw [List.getD_eq_getElem?_getD, List.getD_eq_getElem?_getD, List.getElem?_append_left (by rw [List.length_take]; omega), List.getElem?_take]
    rw [if_pos hj]
  · rw [List.length_append, List.length_take]; simp; omega
-- the sum over all patterns
def prB (o0 o1 : Int) : List Int → Int
  | [] => 1
  | x :: xs => (if x = 1 then o1 else o0) * prB o0 o1 xs
theorem prB_append (o0 o1 : Int) (p q : List Int) : prB o0 o1 (p ++ q) = prB o0 o1 p * prB o0 o1 q := by
  induction p with
  | nil => simp [prB]
  | cons x p ih => simp only [List.cons_append, prB, ih]; grind
def vlP (o0 o1 m : Int) (w : Nat) (p : List Int) : Int := if cfS p m w < 0 then 0 else prB o0 o1 p
def cntF (v : List Int → Int) : Nat → List Int → Int
  | 0, p => v p
  | k + 1, p => cntF v k (p ++ [0]) + cntF v k (p ++ [1])
def bo : Nat → Nat → List Int
  | 0, _ => []
  | n + 1, x => ((x % 2 : Nat) : Int) :: bo n (x / 2)
theorem bo_length (n x : Nat) : (bo n x).length = n := by
  induction n generalizing x with
  | zero => rfl
  | succ n ih => simp [bo, ih]
theorem bo_getD (n x i : Nat) (h : i < n) : (bo n x).getD i 0 = ((x / 2 ^ i % 2 : Nat) : Int) := by
  induction n generalizing x i with
  | zero => omega
  | succ n ih =>
    cases i with
    | zero => simp [bo]
    | succ i => simp only [bo, List.getD_cons_succ]; rw [ih _ _ (by omega), Nat.div_div_eq_div_mul, Nat.pow_succ, Nat.mul_comm 2]
theorem bo_bits (n x : Nat) : bitsL (bo n x) := by
  intro j
  by_cases h : j < n
  · rw [bo_getD n x j h]; omega
  · left
    rw [List.getD_eq_getElem?_getD, List.getElem?_eq_none (by rw [bo_length]; omega)]
    rfl
def smN (f : Nat → Int) : Nat → Int
  | 0 => 0
  | n + 1 => smN f n + f n
theorem smN_two (f : Nat → Int) (n : Nat) : smN f (2 * n) = smN (fun y => f (2 * y)) n + smN (fun y => f (2 * y + 1)) n := by
  induction n with
  | zero => rfl
  | succ n ih => rw [show 2 * (n + 1) = 2 * n + 1 + 1 by omega, smN, smN, smN, smN, ih]; omega
theorem smN_congr {f g : Nat → Int} (h : ∀ x, f x = g x) (n : Nat) : smN f n = smN g n := by
  rw [funext h]
theorem cnt_sum (v : List Int → Int) : ∀ (k : Nat) (p : List Int), cntF v k p = smN (fun y => v (p ++ bo k y)) (2 ^ k) := by
  intro k
  induction k with
  | zero => intro p; simp [cntF, smN, bo]
  | succ k ih =>
    intro p
    rw [cntF, ih, ih, Nat.pow_succ, Nat.mul_comm, smN_two]
    congr 1
    · refine smN_congr (fun y => ?_) _
      rw [bo, show 2 * y % 2 = 0 by omega, show 2 * y / 2 = y by omega]
      simp
    · refine smN_congr (fun y => ?_) _
      rw [bo, show (2 * y + 1) % 2 = 1 by omega, show (2 * y + 1) / 2 = y by omega]
      simp
theorem prB_bd {o0 o1 : Int} (h0 : 0 ≤ o0) (h1 : o0 ≤ 16) (g0 : 0 ≤ o1) (g1 : o1 ≤ 16) (p : List Int) : 0 ≤ prB o0 o1 p ∧ prB o0 o1 p ≤ pw p.length := by
  induction p with
  | nil => simp [prB, pw]
  | cons x p ih =>
    rw [prB, List.length_cons, pw]
    obtain ⟨c, hc, c0, c1⟩ : ∃ c, (if x = 1 then o1 else o0) = c ∧ 0 ≤ c ∧ c ≤ 16 := ⟨_, rfl, by split <;> omega, by split <;> omega⟩
    rw [hc]
    have a := mulnn c0 ih.1
    have b := Int.mul_le_mul c1 ih.2 ih.1 (by omega)
    omega
theorem smN_bd {f : Nat → Int} {B : Int} (h : ∀ x, 0 ≤ f x ∧ f x ≤ B) (n : Nat) : 0 ≤ smN f n ∧ smN f n ≤ n * B := by
  induction n with
  | zero => simp [smN]
  | succ n ih =>
    rw [smN]
    have := h n
    have e : ((n + 1 : Nat) : Int) * B = n * B + B := by grind
    omega
theorem vlP_bd {o0 o1 m : Int} {w : Nat} (h0 : 0 ≤ o0) (h1 : o0 ≤ 16) (g0 : 0 ≤ o1) (g1 : o1 ≤ 16) (p : List Int) : 0 ≤ vlP o0 o1 m w p ∧ vlP o0 o1 m w p ≤ pw p.length := by
  unfold vlP
  have := prB_bd h0 h1 g0 g1 p
  have := pw_pos p.length
  split <;> omega
-- equal chances
theorem prB_eight (p : List Int) : prB 8 8 p = 8 ^ p.length * prB 1 1 p := by
  induction p with
  | nil => rfl
  | cons x p ih => rw [prB, prB, ih, List.length_cons, ite_self, ite_self]; grind
theorem prB_ones (p : List Int) : prB 1 1 p = 1 := by
  induction p with
  | nil => rfl
  | cons x p ih => rw [prB, ih, ite_self]; rfl
theorem vlP_eight (m : Int) (w : Nat) (p : List Int) : vlP 8 8 m w p = 8 ^ p.length * vlP 1 1 m w p := by
  unfold vlP
  split
  · simp
  · exact prB_eight p
theorem cnt_eight (m : Int) (w : Nat) : ∀ (k : Nat) (p : List Int), cntF (vlP 8 8 m w) k p = 8 ^ (p.length + k) * cntF (vlP 1 1 m w) k p := by
  intro k
  induction k with
  | zero => intro p; exact vlP_eight m w p
  | succ k ih => intro p; rw [cntF, cntF, ih, ih]; simp only [List.length_append, List.length_cons, List.length_nil]; rw [show p.length + (0 + 1) + k = p.length + (k + 1) by omega]; grind
-- one detection of w
def anyL (p : List Int) : Bool := p.any (fun x => x == 1)
theorem cfF_one {zs : List Int} {w : Nat} (hw : 1 ≤ w) (hb : bitsL zs) : ∀ f i, i + f = zs.length → (∀ j, j < i → zs.getD j 0 = 0) → (cfF zs 1 w f i < 0 ↔ ∀ j, j < zs.length → zs.getD j 0 = 0) := by
  intro f
  induction f with
  | zero => intro i h hz; simp only [cfF]; exact ⟨fun _ j hj => hz j (by omega), fun _ => by omega⟩
  | succ f ih =>
    intro i h hz
    have hp : ∀ k, k ≤ i → preS zs k = 0 := by
      intro k
      induction k with
      | zero => intro _; rfl
      | succ k ihk => intro hk; rw [preS, ihk (by omega), hz k (by omega)]; rfl
    have hw2 : winS zs w i = zs.getD i 0 := by
      unfold winS
      rw [preS, hp i (by omega), hp (i + 1 - w) (by omega)]
      omega
    unfold cfF
    rw [hw2]
    rcases hb i with e | e
    · rw [e, if_neg (by omega)]
      exact ih (i + 1) (by omega) (fun j hj => by
        by_cases hji : j = i
        · subst hji; exact e
        · exact hz j (by omega))
    · rw [e, if_pos (by omega)]
      constructor
      · intro hh; omega
      · intro hh
        have := hh i (by omega)
        omega
theorem cfS_one {zs : List Int} {w : Nat} (hw : 1 ≤ w) (hb : bitsL zs) : cfS zs 1 w < 0 ↔ ∀ j, j < zs.length → zs.getD j 0 = 0 :=
  cfF_one hw hb _ 0 (by omega) (fun j hj => by omega)
theorem bitsL_snoc {p : List Int} {x : Int} (h : bitsL p) (hx : x = 0 ∨ x = 1) : bitsL (p ++ [x]) := by
  intro j
  rw [List.getD_eq_getElem?_getD]
  by_cases hj : j < p.length
  · rw [List.getElem?_append_left hj, ← List.getD_eq_getElem?_getD]; exact h j
  · rw [List.getElem?_append_right (by omega)]
    cases hk : j - p.length with
    | zero => simpa using hx
    | succ k => simp
theorem zero_snoc {p : List Int} {x : Int} : (∀ j, j < (p ++ [x]).length → (p ++ [x]).getD j 0 = 0) ↔ (∀ j, j < p.length → p.getD j 0 = 0) ∧ x = 0 := by
  constructor
  · intro h
    refine ⟨fun j hj => ?_, ?_⟩
    · have := h j (by simp; omega)
      rw [List.getD_eq_getElem?_getD, List.getElem?_append_left hj, ← List.getD_eq_getElem?_getD] at this
      exact this
    · have := h p.length (by simp)
      rw [List.getD_eq_getElem?_getD, List.getElem?_append_right (by omega)] at this
      simpa using this
  · rintro ⟨h, rfl⟩ j hj
    rw [List.getD_eq_getElem?_getD]
    by_cases hjp : j < p.length
    · rw [List.getElem?_append_left hjp, ← List.getD_eq_getElem?_getD]; exact h j hjp
    · rw [List.getElem?_append_right (by omega)]
      cases hk : j - p.length with
      | zero => simp
      | succ k => simp
theorem cnt_one {a : Int} {w : Nat} (hw : 1 ≤ w) : ∀ (k : Nat) (p : List Int), bitsL p → ((∀ j, j < p.length → p.getD j 0 = 0) → cntF (vlP (16 - a) a 1 w) k p = prB (16 - a) a p * tl a k 1) ∧ ((¬ ∀ j, j < p.length → p.getD j 0 = 0) → cntF (vlP (16 - a) a 1 w) k p = prB (16 - a) a p * pw k) := by
  intro k
  induction k with
  | zero =>
    intro p hp
    refine ⟨fun h => ?_, fun h => ?_⟩
    · rw [cntF, vlP, if_pos ((cfS_one hw hp).2 h)]; simp [tl]
    · rw [cntF, vlP, if_neg (fun e => h ((cfS_one hw hp).1 e))]; simp [pw]
  | succ k ih =>
    intro p hp
    have i0 := ih (p ++ [0]) (bitsL_snoc hp (Or.inl rfl))
    have i1 := ih (p ++ [1]) (bitsL_snoc hp (Or.inr rfl))
    rw [zero_snoc, prB_append] at i0 i1
    have p0 : prB (16 - a) a [0] = 16 - a := by simp [prB]
    have p1 : prB (16 - a) a [1] = a := by simp [prB]
    rw [p0] at i0
    rw [p1] at i1
    rw [cntF]
    refine ⟨fun h => ?_, fun h => ?_⟩
    · rw [i0.1 ⟨h, rfl⟩, i1.2 (fun e => by have := e.2; omega), tl_succ k (by omega), tl_le k (m := 1 - 1) (by omega)]
      grind
    · rw [i0.2 (fun e => h e.1), i1.2 (fun e => h e.1), pw]
      grind
theorem cnt_tail {a : Int} {w : Nat} (hw : 1 ≤ w) (k : Nat) : cntF (vlP (16 - a) a 1 w) k [] = tl a k 1 := by
  rw [(cnt_one (a := a) hw k [] (fun j => by left; simp)).1 (fun j hj => by simp at hj)]
  simp [prB]
theorem cnt_none (o0 o1 m : Int) (w : Nat) : cntF (vlP o0 o1 m w) 0 [] = 0 := by
  simp [cntF, vlP, cfS, cfF]
theorem frB_t {num den : Int} (h : frB num den = true) : (1 ≤ den ∧ den ≤ 1000) ∧ 0 ≤ num ∧ num ≤ den := by
  unfold frB at h
  rw [Bool.and_eq_true] at h
  exact ⟨inB_t h.1, inB_t h.2⟩
theorem wiB_t {m w : Int} (h : wiB m w = true) : (1 ≤ w ∧ w ≤ 12) ∧ 1 ≤ m ∧ m ≤ w := by
  unfold wiB at h
  rw [Bool.and_eq_true] at h
  exact ⟨inB_t h.1, inB_t h.2⟩
def cfB (zs : List Int) (m w : Int) : Bool := decide (zs.length ≤ 200) && (!anyLack 0 1 zs) && wiB m w
def csT (zs : List Int) (m w : Int) : Int × Int := if cfB zs m w then (if cfS zs m w.toNat < 0 then (0, 4) else (cfS zs m w.toNat, 0)) else (0, 2)
def ckT (n a m w : Int) : Int × Int := if scB n && chB a && wiB m w then (cntF (vlP (16 - a) a m w.toNat) n.toNat [], 0) else (0, 2)
def cpT (n m w : Int) : Int × Int := if scB n && wiB m w then (cntF (vlP 1 1 m w.toNat) n.toNat [], 0) else (0, 2)
end Go.Proofs.Ytgdnapioboodbaa
