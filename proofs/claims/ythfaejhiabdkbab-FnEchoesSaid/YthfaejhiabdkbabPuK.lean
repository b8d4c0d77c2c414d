/- The facts behind the laws of pulses: opposite bits, energies of pulses, sums of echoes. -/
import Derived.Test.YthfaejhiabdkbabPuM
namespace Go.Proofs.Ythfaejhiabdkbab
open Go.ChangeShapes Go.WideShapes Go.ChangeAt Go.RowKit
set_option linter.unusedVariables false
theorem sumT_const {f : Nat → Int} {c : Int} : ∀ {m : Nat}, (∀ i, i < m → f i = c) → sumT f m = (m : Int) * c
  | 0, _ => by simp [sumT]
  | m + 1, h => by
    rw [sumT_succ, sumT_const (fun i hi => h i (by omega)), h m (by omega), Int.natCast_add, Int.add_mul]
    simp
/-- the opposite bits -/
def otB (bs : List Int) (k : Nat) : List Int := (List.range k).map (fun i => 1 - bs.getD i 0)
theorem otB_0 (bs : List Int) : otB bs 0 = [] := rfl
theorem otB_len (bs : List Int) (k : Nat) : (otB bs k).length = k := by simp [otB]
theorem otB_succ (bs : List Int) (k : Nat) : otB bs (k + 1) = otB bs k ++ [1 - bs.getD k 0] := by simp [otB, List.range_succ]
theorem otB_at (bs : List Int) {k i : Nat} (h : i < k) : (otB bs k).getD i 0 = 1 - bs.getD i 0 := by unfold otB; rw [map_getD _ h]
theorem smp_neg {a b : Int} (h : b = 0 ∨ b = 1) : smp a (1 - b) = -smp a b := by
  rcases h with rfl | rfl
  · rw [show (1 : Int) - 0 = 1 from rfl, smp_1, smp_0]; omega
  · rw [show (1 : Int) - 1 = 0 from rfl, smp_1, smp_0]
theorem pulK_neg {bs : List Int} (w : Nat) (a : Int) (hb : ∀ i, i < bs.length → bs.getD i 0 = 0 ∨ bs.getD i 0 = 1) : ∀ {i : Nat}, i ≤ bs.length → pulK (otB bs bs.length) w a i = (pulK bs w a i).map (fun x => -x)
  | 0, _ => rfl
  | i + 1, h => by
    rw [← pulJ_end w a (show i < (otB bs bs.length).length by rw [otB_len]; omega), ← pulJ_end w a (show i < bs.length by omega)]
    unfold pulJ
    rw [pulK_neg w a hb (by omega), List.map_append, List.map_replicate, otB_at bs (by omega), smp_neg (hb i (by omega))]
theorem pulK_mem {bs : List Int} {w : Nat} {a : Int} {i : Nat} {x : Int} (h : x ∈ pulK bs w a i) : x = a ∨ x = -a := by
  unfold pulK at h
  obtain ⟨b, _, hx⟩ := List.mem_flatMap.1 h
  rw [(List.mem_replicate.1 hx).2]
  unfold smp
  split
  · exact Or.inr rfl
  · exact Or.inl rfl
theorem getD_mem {zs : List Int} {i : Nat} (h : i < zs.length) : zs.getD i 0 ∈ zs := by
  rw [List.getD_eq_getElem?_getD, List.getElem?_eq_getElem h]; exact List.getElem_mem h
theorem pulK_sig {bs : List Int} {w : Nat} {a : Int} (ha : 1 ≤ a) (ha2 : a ≤ 1000) (hl : bs.length * w ≤ 400) : sigB (pulK bs w a bs.length) = true :=
  sigB_mk (by rw [pulK_len _ _ (Nat.le_refl _)]; exact hl) (fun i hi => by
    have := pulK_mem (getD_mem hi)
    omega)
theorem pulK_energy (bs : List Int) (w : Nat) (a : Int) : cor (pulK bs w a bs.length) 0 = ((bs.length * w : Nat) : Int) * (a * a) := by
  unfold cor dotT
  rw [List.drop_zero, Nat.sub_zero]
  have hl : (pulK bs w a bs.length).length = bs.length * w := pulK_len _ _ (Nat.le_refl _)
  rw [sumT_const (c := a * a) (fun i hi => by
    rcases pulK_mem (getD_mem hi) with e | e
    · rw [e]
    · rw [e, Int.neg_mul_neg]), hl]
theorem anyLack_ot {bs : List Int} (hb : ∀ i, i < bs.length → bs.getD i 0 = 0 ∨ bs.getD i 0 = 1) : anyLack 0 1 (otB bs bs.length) = false :=
  anyLack_f (fun k hk => by
    rw [otB_len] at hk
    rw [otB_at bs hk]
    have := hb k hk
    unfold hasB
    rw [decide_eq_true (by omega), decide_eq_true (by omega)]; rfl)
/-- the sum of a list -/
def sumL (zs : List Int) : Int := sumT (fun i => zs.getD i 0) zs.length
theorem sumL_bd {A : Int} {zs : List Int} (h : smlL A zs) : -(A * zs.length) ≤ sumL zs ∧ sumL zs ≤ A * zs.length := sumT_bd (fun i _ => h i)
theorem sumT_point (f : Nat → Int) (k : Nat) (v : Int) : ∀ {m : Nat}, k < m → sumT (fun i => if i = k then v else f i) m = sumT f m - f k + v
  | 0, h => by omega
  | m + 1, h => by
    rw [sumT_succ, sumT_succ]
    by_cases e : k = m
    · subst e
      have : sumT (fun i => if i = k then v else f i) k = sumT f k := sumT_congr (fun i hi => by rw [if_neg (by omega)])
      rw [this, if_pos rfl]; omega
    · rw [sumT_point f k v (by omega), if_neg (by omega)]; omega
theorem sumL_set {L : List Int} {k : Nat} {v : Int} (h : k < L.length) : sumL (L.set k v) = sumL L - L.getD k 0 + v := by
  unfold sumL
  rw [List.length_set, ← sumT_point (fun i => L.getD i 0) k v h]
  apply sumT_congr
  intro i hi
  rw [getD_setP]
  by_cases e : i = k
  · subst e; rw [if_pos ⟨rfl, hi⟩, if_pos rfl]
  · rw [if_neg (fun h => e h.1.symm), if_neg e]
theorem sumT_mul (g : Int) (f : Nat → Int) : ∀ m : Nat, sumT (fun i => g * f i) m = g * sumT f m
  | 0 => by simp [sumT]
  | m + 1 => by rw [sumT_succ, sumT_succ, sumT_mul g f m, Int.mul_add]
theorem sum_addE {S : List Int} {d : Nat} {g : Int} {ps : List Int} : ∀ {k : Nat}, d + k ≤ S.length → sumL (addE S d g ps k) = sumL S + sumT (fun i => g * ps.getD i 0) k
  | 0, _ => by simp [addE, sumT]
  | k + 1, h => by
    rw [addE_succ, sumL_set (by rw [addE_len]; omega), sum_addE (by omega), sumT_succ]
    omega
theorem sum_zero : ∀ n : Nat, sumL (List.replicate n 0) = 0 := fun n => by
  unfold sumL
  rw [sumT_const (c := 0) (fun i hi => by
    rw [List.getD_eq_getElem?_getD, List.getElem?_replicate]
    split <;> rfl)]
  simp
theorem sum_ecT {n : Nat} {ps ds gs : List Int} (hd : ∀ i, i < ds.length → (ds.getD i 0).toNat + ps.length ≤ n) : ∀ {i : Nat}, i ≤ ds.length → sumL (ecT n ps ds gs i) = sumT (fun j => gs.getD j 0) i * sumL ps
  | 0, _ => by
    have : ecT n ps ds gs 0 = List.replicate n 0 := rfl
    rw [this, sum_zero]; simp [sumT]
  | i + 1, h => by
    rw [ecT_succ, sum_addE (by rw [ecT_len]; exact hd i (by omega)), sum_ecT hd (by omega), sumT_mul, sumT_succ, Int.add_mul]
    rfl
end Go.Proofs.Ythfaejhiabdkbab
