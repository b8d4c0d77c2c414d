/- What both sides compute of arrays: valid places, delays and their errors; and the facts behind the laws. -/
import Derived.Test.YthfaejhiabdkbaaPuM
import Derived.Test.YthfaejhiabdkbaaNear
import Derived.Test.YthfaejhiabdkbaaMth
import Derived.Test.YthfaejhiabdkbaaPrs
namespace Go.Proofs.Ythfaejhiabdkbaa
open Go.ChangeShapes Go.WideShapes Go.ChangeAt Go.RowKit Num
set_option linter.unusedVariables false
/-- a place lies within its bounds and behind the one before it -/
def arrP (zs : List Int) (i : Nat) : Prop := hasB (-10000) 10000 (zs.getD i 0) = true ∧ (0 < i → zs.getD (i - 1) 0 < zs.getD i 0)
instance (zs : List Int) (i : Nat) : Decidable (arrP zs i) := by unfold arrP; infer_instance
def arrB (zs : List Int) : Bool := decide (0 < zs.length) && decide (zs.length ≤ 12) && decide (∀ i, i < zs.length → arrP zs i)
theorem arrB_t {zs : List Int} (h : arrB zs = true) : 0 < zs.length ∧ zs.length ≤ 12 ∧ ∀ i, i < zs.length → arrP zs i := by
  unfold arrB at h
  simp only [Bool.and_eq_true, decide_eq_true_eq] at h
  exact ⟨h.1.1, h.1.2, h.2⟩
theorem arrB_mk {zs : List Int} (h0 : 0 < zs.length) (h1 : zs.length ≤ 12) (h : ∀ i, i < zs.length → arrP zs i) : arrB zs = true := by
  unfold arrB
  rw [decide_eq_true h0, decide_eq_true h1, decide_eq_true h]; rfl
theorem arrB_f {zs : List Int} (h : ¬ (0 < zs.length ∧ zs.length ≤ 12 ∧ ∀ i, i < zs.length → arrP zs i)) : arrB zs = false := by
  cases e : arrB zs
  · rfl
  · exact absurd (arrB_t e) h
theorem hasB_in {lo hi x : Int} (h : hasB lo hi x = true) : lo ≤ x ∧ x ≤ hi := by unfold hasB at h; simpa using h
theorem hasB_mk {lo hi x : Int} (h1 : lo ≤ x) (h2 : x ≤ hi) : hasB lo hi x = true := by unfold hasB; simp [h1, h2]
theorem hasB_ff {lo hi x : Int} (h : ¬ (lo ≤ x ∧ x ≤ hi)) : hasB lo hi x = false := by
  cases e : hasB lo hi x
  · rfl
  · exact absurd (hasB_in e) h
theorem arrB_sml {zs : List Int} (h : arrB zs = true) : smlL 10000 zs := fun i => by
  by_cases hi : i < zs.length
  · exact hasB_in ((arrB_t h).2.2 i hi).1
  · rw [getD_outP hi]; omega
/-- rate and speed -/
def timB (r v : Int) : Bool := hasB 1 100000 r && hasB 1300000 1700000 v
theorem timB_t {r v : Int} (h : timB r v = true) : 1 ≤ r ∧ r ≤ 100000 ∧ 1300000 ≤ v ∧ v ≤ 1700000 := by
  unfold timB at h
  simp only [Bool.and_eq_true] at h
  have a := hasB_in h.1
  have b := hasB_in h.2
  omega
/-- the code of an array, a direction, a rate and a speed -/
def arC (zs : List Int) (c s h r v : Int) : Int := if arrB zs && dirB c s h then (if timB r v then 0 else 2) else 1
theorem arC_0 {zs : List Int} {c s h r v : Int} (e : arC zs c s h r v = 0) : arrB zs = true ∧ dirB c s h = true ∧ timB r v = true := by
  unfold arC at e
  split at e
  · rename_i g
    simp only [Bool.and_eq_true] at g
    split at e
    · rename_i k; exact ⟨g.1, g.2, k⟩
    · omega
  · omega
theorem arC_mir (zs : List Int) (c s h r v : Int) : arC zs c (-s) h r v = arC zs c s h r v := by unfold arC; rw [dirB_mir]
/-- numerator and denominator of the exact delay -/
def dnm (x r s : Int) : Int := 10 * x * r * s
def dly (s h r v x : Int) : Int := near (dnm x r s) (h * v)
theorem mulb {a b A B : Int} (h1 : -A ≤ a) (h2 : a ≤ A) (h3 : -B ≤ b) (h4 : b ≤ B) (hA : 0 ≤ A) (hB : 0 ≤ B) : -(A * B) ≤ a * b ∧ a * b ≤ A * B := by
  have := mul_abs (a := a) (n := b) (A := A.toNat) (N := B.toNat) (by omega) (by omega)
  have e : ((A.toNat * B.toNat : Nat) : Int) = A * B := by rw [Int.natCast_mul, Int.toNat_of_nonneg hA, Int.toNat_of_nonneg hB]
  omega
theorem dnm_bd {x r s : Int} (x1 : -10000 ≤ x ∧ x ≤ 10000) (r1 : 1 ≤ r) (r2 : r ≤ 100000) (s1 : -1000 ≤ s) (s2 : s ≤ 1000) :
    -100000 ≤ 10 * x ∧ 10 * x ≤ 100000 ∧ -10000000000 ≤ 10 * x * r ∧ 10 * x * r ≤ 10000000000 ∧ -10000000000000 ≤ dnm x r s ∧ dnm x r s ≤ 10000000000000 := by
  have a := mulb (a := 10 * x) (b := r) (A := 100000) (B := 100000) (by omega) (by omega) (by omega) (by omega) (by omega) (by omega)
  have b := mulb (a := 10 * x * r) (b := s) (A := 10000000000) (B := 1000) (by omega) (by omega) (by omega) (by omega) (by omega) (by omega)
  unfold dnm
  omega
theorem dden_bd {h v : Int} (h1 : 1 ≤ h) (h2 : h ≤ 1000) (v1 : 1300000 ≤ v) (v2 : v ≤ 1700000) : 1300000 ≤ h * v ∧ h * v ≤ 1700000000 := by
  have a := Int.mul_le_mul_of_nonneg_right h1 (show (0 : Int) ≤ v by omega)
  have b := mulb (a := h) (b := v) (A := 1000) (B := 1700000) (by omega) (by omega) (by omega) (by omega) (by omega) (by omega)
  omega
/-- the nearest integer is off by at most half -/
theorem near_half (a : Int) {b : Int} (hb : 0 < b) : 2 * ((a - near a b * b).natAbs : Int) ≤ b := by
  have hr := (fmod_rng a b).1 hb
  unfold near
  have es : (a.fdiv b + 1) * b = a.fdiv b * b + b := by rw [Int.add_mul]; omega
  rw [Int.mul_comm] at hr
  split
  · rename_i g; rw [es]; generalize a.fdiv b * b = p at *; omega
  · rename_i g; generalize a.fdiv b * b = p at *; omega
theorem near_opp (a : Int) {b : Int} (hb : 0 < b) : near (-a) b = -near a b := by
  have hr := (fmod_rng a b).1 hb
  have hr2 := (fmod_rng (-a) b).1 hb
  have hd := fdiv_bd a b
  rw [Int.mul_comm] at hr hr2
  have key : ((-a).fdiv b = -a.fdiv b ∧ a.fdiv b * b = a) ∨ ((-a).fdiv b = -a.fdiv b - 1 ∧ a.fdiv b * b ≠ a) := by
    have hs : ∀ p q : Int, p * b ≤ q * b + (b - 1) → p ≤ q := fun p q h => by
      rcases Int.lt_or_le q p with l | l
      · have := Int.mul_le_mul_of_nonneg_right (show q + 1 ≤ p by omega) (show 0 ≤ b by omega)
        rw [Int.add_mul] at this
        omega
      · exact l
    have n1 : (-a.fdiv b) * b = -(a.fdiv b * b) := Int.neg_mul _ _
    have n2 : (-a.fdiv b - 1) * b = -(a.fdiv b * b) - b := by rw [Int.sub_mul, n1]; omega
    by_cases e : a.fdiv b * b = a
    · left
      refine ⟨?_, e⟩
      have h1 := hs ((-a).fdiv b) (-a.fdiv b) (by rw [n1]; omega)
      have h2 := hs (-a.fdiv b) ((-a).fdiv b) (by rw [n1]; omega)
      omega
    · right
      refine ⟨?_, e⟩
      have h1 := hs ((-a).fdiv b) (-a.fdiv b - 1) (by rw [n2]; omega)
      have h2 := hs (-a.fdiv b - 1) ((-a).fdiv b) (by rw [n2]; omega)
      omega
  unfold near
  have m1 : (-a.fdiv b) * b = -(a.fdiv b * b) := Int.neg_mul _ _
  have m2 : (-a.fdiv b - 1) * b = -(a.fdiv b * b) - b := by rw [Int.sub_mul, m1]; omega
  rcases key with ⟨k, e⟩ | ⟨k, e⟩
  · rw [k, m1]
    generalize a.fdiv b = q at *
    generalize q * b = p at *
    rw [if_neg (by omega), if_neg (by omega)]
  · rw [k, m2]
    generalize a.fdiv b = q at *
    generalize q * b = p at *
    by_cases g : (b.natAbs : Int) < 2 * ((a - p).natAbs : Int) ∨ (2 * ((a - p).natAbs : Int) = b.natAbs ∧ q % 2 = 1)
    · rw [if_pos g, if_neg (by omega)]; omega
    · rw [if_neg g, if_pos (by omega)]; omega
theorem near_bd (a : Int) {b : Int} (hb : 0 < b) (h1 : -10000000000000 ≤ a) (h2 : a ≤ 10000000000000) : -10000000000001 ≤ near a b ∧ near a b ≤ 10000000000001 := by
  have := fdiv_bd a b
  unfold near
  split <;> omega
/-- the delays -/
def dlL (zs : List Int) (s h r v : Int) (n : Nat) : List Int := (List.range n).map (fun i => dly s h r v (zs.getD i 0))
theorem dlL_len (zs : List Int) (s h r v : Int) (n : Nat) : (dlL zs s h r v n).length = n := by simp [dlL]
theorem dlL_succ (zs : List Int) (s h r v : Int) (n : Nat) : dlL zs s h r v (n + 1) = dlL zs s h r v n ++ [dly s h r v (zs.getD n 0)] := by simp [dlL, List.range_succ]
theorem dlL_at (zs : List Int) (s h r v : Int) {n k : Nat} (hk : k < n) : (dlL zs s h r v n).getD k 0 = dly s h r v (zs.getD k 0) := by unfold dlL; exact map_getD _ hk
/-- a list built by stores: f up to k, zeros behind -/
def preL (f : Nat → Int) (n k : Nat) : List Int := (List.range n).map (fun i => if i < k then f i else 0)
theorem preL_0 (f : Nat → Int) (n : Nat) : preL f n 0 = List.replicate n 0 := by
  unfold preL
  apply List.ext_getElem (by simp)
  intro i h1 h2
  simp
theorem preL_len (f : Nat → Int) (n k : Nat) : (preL f n k).length = n := by simp [preL]
theorem preL_set (f : Nat → Int) (n k : Nat) : (preL f n k).set k (f k) = preL f n (k + 1) := by
  unfold preL
  rw [map_setP]
  apply List.map_congr_left
  intro i _
  by_cases e : i = k
  · subst e; rw [if_pos rfl, if_pos (by omega)]
  · rw [if_neg e]
    by_cases h : i < k
    · rw [if_pos h, if_pos (by omega)]
    · rw [if_neg h, if_neg (by omega)]
theorem preL_end (f : Nat → Int) (n : Nat) : preL f n n = (List.range n).map f := by
  unfold preL
  apply List.map_congr_left
  intro i hi
  rw [if_pos (List.mem_range.1 hi)]
/-- the error of a delay, in thousandths, rounded up -/
def der (s h r v x : Int) : Int := cdiv (1000 * ((dnm x r s - dly s h r v x * (h * v)).natAbs : Int)) (h * v)
theorem der_bd {s h r v x : Int} (hb : 0 < h * v) : 0 ≤ der s h r v x ∧ der s h r v x ≤ 500 := by
  have h1 := near_half (dnm x r s) hb
  unfold der dly cdiv
  have h0 : 0 ≤ ((dnm x r s - near (dnm x r s) (h * v) * (h * v)).natAbs : Int) := Int.natCast_nonneg _
  generalize ((dnm x r s - near (dnm x r s) (h * v) * (h * v)).natAbs : Int) = u at *
  generalize h * v = D at *
  have hr := (fmod_rng (-(1000 * u)) D).1 hb
  generalize (-(1000 * u)).fdiv D = m at *
  constructor
  · rcases Int.lt_or_le 0 m with l | l
    · have := Int.mul_le_mul_of_nonneg_left (show 1 ≤ m by omega) (show 0 ≤ D by omega)
      omega
    · omega
  · rcases Int.lt_or_le m (-500) with l | l
    · have := Int.mul_le_mul_of_nonneg_left (show m ≤ -501 by omega) (show 0 ≤ D by omega)
      omega
    · omega
def deL (zs : List Int) (s h r v : Int) (n : Nat) : List Int := (List.range n).map (fun i => der s h r v (zs.getD i 0))
theorem deL_len (zs : List Int) (s h r v : Int) (n : Nat) : (deL zs s h r v n).length = n := by simp [deL]
theorem deL_succ (zs : List Int) (s h r v : Int) (n : Nat) : deL zs s h r v (n + 1) = deL zs s h r v n ++ [der s h r v (zs.getD n 0)] := by simp [deL, List.range_succ]
theorem deL_at (zs : List Int) (s h r v : Int) {n k : Nat} (hk : k < n) : (deL zs s h r v n).getD k 0 = der s h r v (zs.getD k 0) := by unfold deL; exact map_getD _ hk
/-- the results of DelaysOf and DelayErrors -/
def dlR (zs : List Int) (c s h r v : Int) : List Int := if arC zs c s h r v = 0 then dlL zs s h r v zs.length else []
def deR (zs : List Int) (c s h r v : Int) : List Int := if arC zs c s h r v = 0 then deL zs s h r v zs.length else []
theorem dlR_len (zs : List Int) (c s h r v : Int) : (dlR zs c s h r v).length ≤ 1048576 := by
  unfold dlR
  split
  · rename_i e; rw [dlL_len]; have := (arrB_t (arC_0 e).1).2.1; omega
  · simp
theorem deR_len (zs : List Int) (c s h r v : Int) : (deR zs c s h r v).length ≤ 1048576 := by
  unfold deR
  split
  · rename_i e; rw [deL_len]; have := (arrB_t (arC_0 e).1).2.1; omega
  · simp
end Go.Proofs.Ythfaejhiabdkbaa
