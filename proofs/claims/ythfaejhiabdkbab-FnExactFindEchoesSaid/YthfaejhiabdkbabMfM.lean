/- What both sides compute of matched filters: traces, peaks, weights, matches, clear echoes, the search for echoes. -/
import Derived.Test.YthfaejhiabdkbabPuM
import Derived.Test.YthfaejhiabdkbabNear
namespace Go.Proofs.Ythfaejhiabdkbab
open Go.ChangeShapes Go.WideShapes Go.ChangeAt Go.RowKit
set_option linter.unusedVariables false
/-- a trace -/
def trcB (zs : List Int) : Bool := decide (zs.length ≤ 400) && !anyLack (-1000000000000) 1000000000000 zs
theorem trcB_t {zs : List Int} (h : trcB zs = true) : zs.length ≤ 400 ∧ smlL 1000000000000 zs := by
  unfold trcB at h
  simp only [Bool.and_eq_true, decide_eq_true_eq, Bool.not_eq_true'] at h
  exact ⟨h.1, anyLack_sml (by decide) h.2⟩
/-- the peak among the first m + 1 elements -/
def pkT (zs : List Int) : Nat → Nat
  | 0 => 0
  | m + 1 => if ((zs.getD (pkT zs m) 0).natAbs : Int) < ((zs.getD (m + 1) 0).natAbs : Int) then m + 1 else pkT zs m
theorem pkT_succ (zs : List Int) (m : Nat) : pkT zs (m + 1) = if ((zs.getD (pkT zs m) 0).natAbs : Int) < ((zs.getD (m + 1) 0).natAbs : Int) then m + 1 else pkT zs m := rfl
theorem pkT_t {zs : List Int} {m : Nat} (h : ((zs.getD (pkT zs m) 0).natAbs : Int) < ((zs.getD (m + 1) 0).natAbs : Int)) : pkT zs (m + 1) = m + 1 := by rw [pkT_succ, if_pos h]
theorem pkT_f {zs : List Int} {m : Nat} (h : ¬ ((zs.getD (pkT zs m) 0).natAbs : Int) < ((zs.getD (m + 1) 0).natAbs : Int)) : pkT zs (m + 1) = pkT zs m := by rw [pkT_succ, if_neg h]
theorem pkT_le (zs : List Int) : ∀ m : Nat, pkT zs m ≤ m
  | 0 => Nat.le_refl _
  | m + 1 => by
    have := pkT_le zs m
    rw [pkT_succ]
    split <;> omega
theorem pkT_ge (zs : List Int) : ∀ m j : Nat, j ≤ m → ((zs.getD j 0).natAbs : Int) ≤ ((zs.getD (pkT zs m) 0).natAbs : Int)
  | 0, j, h => by
    obtain rfl : j = 0 := by omega
    exact Int.le_refl _
  | m + 1, j, h => by
    by_cases e : j = m + 1
    · subst e
      rw [pkT_succ]
      split <;> omega
    · have := pkT_ge zs m j (by omega)
      rw [pkT_succ]
      split <;> omega
theorem pkT_first (zs : List Int) : ∀ m j : Nat, j < pkT zs m → ((zs.getD j 0).natAbs : Int) < ((zs.getD (pkT zs m) 0).natAbs : Int)
  | 0, j, h => absurd h (Nat.not_lt_zero _)
  | m + 1, j, h => by
    rw [pkT_succ] at h ⊢
    split at h
    · rename_i hh
      rw [if_pos hh]
      have := pkT_ge zs m j (by omega)
      omega
    · rename_i hh
      rw [if_neg hh]
      exact pkT_first zs m j h
def pkV (zs : List Int) : Nat := pkT zs (zs.length - 1)
theorem pkV_lt {zs : List Int} (h : 0 < zs.length) : pkV zs < zs.length := by
  have := pkT_le zs (zs.length - 1)
  unfold pkV
  omega
theorem pkV_ge {zs : List Int} {j : Nat} (h : j < zs.length) : ((zs.getD j 0).natAbs : Int) ≤ ((zs.getD (pkV zs) 0).natAbs : Int) := pkT_ge zs _ j (by omega)
theorem pkV_first {zs : List Int} {j : Nat} (h : j < pkV zs) : ((zs.getD j 0).natAbs : Int) < ((zs.getD (pkV zs) 0).natAbs : Int) := pkT_first zs _ j h
/-- an element greater than all others is the peak -/
theorem pkV_only {zs : List Int} {k : Nat} (hk : k < zs.length) (h : ∀ j, j < zs.length → j ≠ k → ((zs.getD j 0).natAbs : Int) < ((zs.getD k 0).natAbs : Int)) : pkV zs = k := by
  by_cases e : pkV zs = k
  · exact e
  · have h1 := h _ (pkV_lt (by omega)) e
    have h2 := pkV_ge hk
    omega
theorem pkV_zero {zs : List Int} (h : ∀ j, zs.getD j 0 = 0) : pkV zs = 0 := by
  rcases Nat.eq_zero_or_pos (pkV zs) with e | e
  · exact e
  · have := pkV_first e
    rw [h, h] at this
    omega
/-- the values of a function up to k, zeros behind -/
def parP (f : Nat → Int) (n k : Nat) : List Int := (List.range n).map (fun i => if i < k then f i else 0)
theorem parP_0 (f : Nat → Int) (n : Nat) : parP f n 0 = List.replicate n 0 := by
  unfold parP
  apply List.ext_getElem (by simp)
  intro i h1 h2
  simp
theorem parP_len (f : Nat → Int) (n k : Nat) : (parP f n k).length = n := by simp [parP]
theorem parP_set (f : Nat → Int) (n k : Nat) : (parP f n k).set k (f k) = parP f n (k + 1) := by
  unfold parP
  rw [map_setP]
  apply List.map_congr_left
  intro i _
  by_cases e : i = k
  · subst e; rw [if_pos rfl, if_pos (by omega)]
  · rw [if_neg e]
    by_cases h : i < k
    · rw [if_pos h, if_pos (by omega)]
    · rw [if_neg h, if_neg (by omega)]
theorem parP_end (f : Nat → Int) (n : Nat) : parP f n n = (List.range n).map f := by
  unfold parP
  apply List.map_congr_left
  intro i hi
  rw [if_pos (List.mem_range.1 hi)]
/-- the match at an index, the matches -/
def mtA (ss ps : List Int) (k : Nat) : Int := dotT ps (ss.drop k) ps.length
def mtN (ss ps : List Int) : Nat := ss.length - ps.length + 1
def mtK (ss ps : List Int) (n : Nat) : List Int := (List.range n).map (mtA ss ps)
def mtL (ss ps : List Int) : List Int := mtK ss ps (mtN ss ps)
theorem mtK_len (ss ps : List Int) (n : Nat) : (mtK ss ps n).length = n := by simp [mtK]
theorem mtL_len (ss ps : List Int) : (mtL ss ps).length = ss.length - ps.length + 1 := mtK_len _ _ _
theorem mtK_succ (ss ps : List Int) (n : Nat) : mtK ss ps (n + 1) = mtK ss ps n ++ [mtA ss ps n] := by simp [mtK, List.range_succ]
theorem mtK_at (ss ps : List Int) {n k : Nat} (h : k < n) : (mtK ss ps n).getD k 0 = mtA ss ps k := map_getD (mtA ss ps) h
theorem mtA_bd {ss ps : List Int} (h1 : smlL 1000 ss) (h2 : smlL 1000 ps) (hl : ps.length ≤ 400) (k : Nat) : -400000000 ≤ mtA ss ps k ∧ mtA ss ps k ≤ 400000000 := by
  have := dotT_bd h2 (smlL_drop h1 k) ps.length
  unfold mtA
  omega
theorem mtK_sml {ss ps : List Int} (h1 : smlL 1000 ss) (h2 : smlL 1000 ps) (hl : ps.length ≤ 400) (n : Nat) : smlL 400000000 (mtK ss ps n) := fun i => by
  by_cases h : i < n
  · rw [mtK_at ss ps h]; exact mtA_bd h1 h2 hl i
  · rw [getD_outP (by rw [mtK_len]; exact h)]; omega
/-- the error of a match -/
def mtC (ss ps : List Int) : Int := if sigB ss && sigB ps then (if decide (ps.length = 0) || decide (ss.length < ps.length) then 5 else 0) else 1
theorem mtC_0 {ss ps : List Int} (h : mtC ss ps = 0) : sigB ss = true ∧ sigB ps = true ∧ 0 < ps.length ∧ ps.length ≤ ss.length := by
  unfold mtC at h
  split at h
  · rename_i hs
    rw [Bool.and_eq_true] at hs
    split at h
    · omega
    · rename_i hn
      simp only [Bool.or_eq_true, decide_eq_true_eq, not_or] at hn
      exact ⟨hs.1, hs.2, by omega, by omega⟩
  · omega
theorem mtC_cases (ss ps : List Int) : mtC ss ps = 0 ∨ mtC ss ps = 1 ∨ mtC ss ps = 5 := by
  unfold mtC
  split
  · split
    · exact Or.inr (Or.inr rfl)
    · exact Or.inl rfl
  · exact Or.inr (Or.inl rfl)
def mtR (ss ps : List Int) : List Int := if mtC ss ps = 0 then mtL ss ps else []
theorem mtR_len (ss ps : List Int) : (mtR ss ps).length ≤ 400 := by
  unfold mtR
  split
  · rename_i h
    obtain ⟨h1, h2, h3, h4⟩ := mtC_0 h
    have := (sigB_t h1).1
    rw [mtL_len]; omega
  · simp
/-- the delay -/
def dlV (ss ps : List Int) : Int := if mtC ss ps = 0 then (pkV (mtL ss ps) : Int) else 0
/-- the peak of a trace with its error -/
def pkC (zs : List Int) : Int := if trcB zs then (if zs.length = 0 then 4 else 0) else 1
def pkR (zs : List Int) : Int := if pkC zs = 0 then (pkV zs : Int) else 0
/-- the weight -/
def wgT (zs : List Int) (m : Nat) : Int := sumT (fun i => ((zs.getD i 0).natAbs : Int)) m
theorem wgT_succ (zs : List Int) (m : Nat) : wgT zs (m + 1) = wgT zs m + ((zs.getD m 0).natAbs : Int) := rfl
theorem wgT_bd {zs : List Int} (h : smlL 1000 zs) (m : Nat) : 0 ≤ wgT zs m ∧ wgT zs m ≤ 1000 * m := by
  refine ⟨sumT_nonneg (fun i _ => by omega), ?_⟩
  exact (sumT_bd (A := 1000) (fun i _ => by have := h i; omega)).2
def wgV (zs : List Int) : Int := wgT zs zs.length
def wgR (zs : List Int) : Int := if sigB zs then wgV zs else 0
/-- a clear echo -/
def clB (ps : List Int) (g no : Int) : Bool := decide (2 * no * wgV ps < (g.natAbs : Int) * (cor ps 0 - sideV ps))
def clC (ps : List Int) (g no : Int) : Int := if sigB ps then (if hasB (-1000) 1000 g && hasB 0 1000 no then 0 else 2) else 1
def clR (ps : List Int) (g no : Int) : Bool := if clC ps g no = 0 then clB ps g no else false
theorem clC_0 {ps : List Int} {g no : Int} (h : clC ps g no = 0) : sigB ps = true ∧ (-1000 ≤ g ∧ g ≤ 1000) ∧ 0 ≤ no ∧ no ≤ 1000 := by
  unfold clC at h
  split at h
  · rename_i hs
    split at h
    · rename_i hh
      unfold hasB at hh
      simp only [Bool.and_eq_true, decide_eq_true_eq] at hh
      exact ⟨hs, hh.1, hh.2⟩
    · omega
  · omega
theorem lead_bd {ps : List Int} (h : sigB ps = true) : 0 ≤ cor ps 0 - sideV ps ∧ cor ps 0 - sideV ps ≤ 400000000 ∧ cor ps 0 ≤ 400000000 ∧ 0 ≤ sideV ps := by
  obtain ⟨h1, h2⟩ := sigB_t h
  have e1 := side_le ps
  have e2 := cor_bd h2 h1 0
  have e3 : 0 ≤ sideV ps := (sideT_bd (A := 400000000) (by decide) (fun k _ => by have := cor_bd h2 h1 k; omega) _).1
  omega
theorem wgV_bd {ps : List Int} (h : sigB ps = true) : 0 ≤ wgV ps ∧ wgV ps ≤ 400000 := by
  obtain ⟨h1, h2⟩ := sigB_t h
  have := wgT_bd h2 ps.length
  unfold wgV
  omega
/-- an echo searched: its delay, its match, its gain, what remains -/
def fAt (ps rest : List Int) : Nat := pkV (mtL rest ps)
def fVl (ps rest : List Int) : Int := (mtL rest ps).getD (fAt ps rest) 0
def fGn (ps : List Int) (th : Int) (rest : List Int) : Int := if ((fVl ps rest).natAbs : Int) < th then 0 else nqv (fVl ps rest) (cor ps 0)
def fNx (ps : List Int) (th : Int) (rest : List Int) : List Int := addE rest (fAt ps rest) (-(fGn ps th rest)) ps ps.length
theorem fNx_len (ps : List Int) (th : Int) (rest : List Int) : (fNx ps th rest).length = rest.length := addE_len _ _ _ _ _
def fGo (ps : List Int) (th : Int) : Nat → List Int → List Int → List Int → List Int × List Int × Int
  | 0, rest, ds, gs => (ds, gs, 0)
  | n + 1, rest, ds, gs => if fGn ps th rest = 0 then (ds, gs, 0) else if sigB (fNx ps th rest) then fGo ps th n (fNx ps th rest) (ds ++ [(fAt ps rest : Int)]) (gs ++ [fGn ps th rest]) else ([], [], 3)
theorem fGo_0 (ps : List Int) (th : Int) (rest ds gs : List Int) : fGo ps th 0 rest ds gs = (ds, gs, 0) := rfl
theorem fGo_stop {ps : List Int} {th : Int} {rest : List Int} (h : fGn ps th rest = 0) (n : Nat) (ds gs : List Int) : fGo ps th n rest ds gs = (ds, gs, 0) := by
  cases n with
  | zero => rfl
  | succ n => unfold fGo; rw [if_pos h]
theorem fGo_bad {ps : List Int} {th : Int} {rest : List Int} (h : ¬ fGn ps th rest = 0) (h2 : sigB (fNx ps th rest) = false) (n : Nat) (ds gs : List Int) : fGo ps th (n + 1) rest ds gs = ([], [], 3) := by
  unfold fGo; rw [if_neg h, h2]; rfl
theorem fGo_next {ps : List Int} {th : Int} {rest : List Int} (h : ¬ fGn ps th rest = 0) (h2 : sigB (fNx ps th rest) = true) (n : Nat) (ds gs : List Int) : fGo ps th (n + 1) rest ds gs = fGo ps th n (fNx ps th rest) (ds ++ [(fAt ps rest : Int)]) (gs ++ [fGn ps th rest]) := by
  conv => lhs; unfold fGo
  rw [if_neg h, h2]; rfl
theorem fGo_len (ps : List Int) (th : Int) : ∀ (n : Nat) (rest ds gs : List Int), ds.length = gs.length → (fGo ps th n rest ds gs).1.length = (fGo ps th n rest ds gs).2.1.length ∧ (fGo ps th n rest ds gs).1.length ≤ ds.length + n
  | 0, rest, ds, gs, h => ⟨h, Nat.le_refl _⟩
  | n + 1, rest, ds, gs, h => by
    unfold fGo
    split
    · exact ⟨h, Nat.le_add_right _ _⟩
    · split
      · obtain ⟨h1, h2⟩ := fGo_len ps th n (fNx ps th rest) (ds ++ [(fAt ps rest : Int)]) (gs ++ [fGn ps th rest]) (by simp [h])
        rw [List.length_append] at h2
        exact ⟨h1, by simp only [List.length_cons, List.length_nil] at h2; omega⟩
      · exact ⟨rfl, by simp⟩
/-- the arguments of a search -/
def feC (ss ps : List Int) (th mo : Int) : Int := if mtC ss ps = 0 then (if hasB 1 1000000000000 th && hasB 0 10 mo then (fGo ps th mo.toNat ss [] []).2.2 else 2) else mtC ss ps
def feD (ss ps : List Int) (th mo : Int) : List Int := if feC ss ps th mo = 0 then (fGo ps th mo.toNat ss [] []).1 else []
def feG (ss ps : List Int) (th mo : Int) : List Int := if feC ss ps th mo = 0 then (fGo ps th mo.toNat ss [] []).2.1 else []
theorem fGo_code (ps : List Int) (th : Int) : ∀ (n : Nat) (rest ds gs : List Int), ((fGo ps th n rest ds gs).2.2 = 0) ∨ fGo ps th n rest ds gs = ([], [], 3)
  | 0, rest, ds, gs => Or.inl rfl
  | n + 1, rest, ds, gs => by
    unfold fGo
    split
    · exact Or.inl rfl
    · split
      · exact fGo_code ps th n _ _ _
      · exact Or.inr rfl
end Go.Proofs.Ythfaejhiabdkbab
