import Derived.Test.YtgecbfbmmbfnmaaCelE
import Derived.Test.YtgecbfbmmbfnmaaDirI
import Derived.Handy
import Derived.Outline
import Derived.LoopTactic
import Derived.Deep.RegionHeld3
import Derived.Deep.DeepCutAuto
import Derived.Deep.RegionWith
import Derived.Test.YtgecbfbmmbfnmaaBdW
namespace Go.Proofs.Ytgecbfbmmbfnmaa
section
/- The contract of the program's CellRange. -/
open Go.ChangeShapes Go.WideShapes Go.ChangeAt Go.RowKit Go.Shelf Num
set_option linter.unusedVariables false
set_option linter.unusedSimpArgs false

theorem rsC_0 {dd de : Bool} {q1 q2 : Int} (e : rsC dd de q1 q2 = 0) : dd = de ∧ q1 = 0 ∧ q2 = 0 := by
  unfold rsC at e
  by_cases g : q1 = 0
  · subst g
    cases dd <;> cases de <;> simp_all
  · cases dd <;> cases de <;> simp_all
end

section
/- What the two sides compute of a cell is the same. -/
open Go.ChangeShapes Go.WideShapes Go.ChangeAt Go.RowKit Go.Shelf Num
set_option linter.unusedVariables false
set_option linter.unusedSimpArgs false
/-- the model's trace of a cell goes through n steps -/
def tlB (zs ys : List Int) (i : Nat) (c s h x y z : Int) : Nat → Bool
  | 0 => true
  | n + 1 => tlB zs ys i c s h x y z n && nxB zs ys i c h (runS zs ys i c h (fst0 i s) n) && nxB zs ys i x z (runS zs ys i x z (fst0 i y) n) && (valB (enS zs ys i c s h x y z (n + 1)).1 && valB (enS zs ys i c s h x y z (n + 1)).2)
/-- the model's code of a cell -/
def mcT (zs ys : List Int) (src c s h x y z n : Int) : Int :=
  if prfB zs ys && dirB c s h && dirB x y z then (if hkB zs src && inB n 0 100 then (if decide (0 < s) == decide (0 < y) then 0 else 5) else 2) else 1
theorem enS_up {zs ys : List Int} {i : Nat} {c s h x y z : Int} (r : RyOk zs ys i c s h) (q : RyOk zs ys i x y z) {N : Nat} (e1 : okN zs ys i c h (fst0 i s) N = true) (e2 : okN zs ys i x z (fst0 i y) N = true) {n : Nat} (hn : n + 1 ≤ N) :
    (enS zs ys i c s h x y z n).1 ≤ (enS zs ys i c s h x y z (n + 1)).1 ∧ (enS zs ys i c s h x y z n).2 ≤ (enS zs ys i c s h x y z (n + 1)).2 := by
  have a1 := SOk.ad r (SOk.run r (SOk.first r) (okN_less e1 (show n ≤ N by omega)))
  have a2 := SOk.ad q (SOk.run q (SOk.first q) (okN_less e2 (show n ≤ N by omega)))
  show _ ≤ (enS zs ys i c s h x y z n).1 + mnI _ _ ∧ _ ≤ (enS zs ys i c s h x y z n).2 + mxI _ _
  unfold mnI mxI
  split <;> split <;> (constructor <;> omega)
theorem tlB_ok {zs ys : List Int} {i : Nat} {c s h x y z : Int} : ∀ {n : Nat}, tlB zs ys i c s h x y z n = true → okN zs ys i c h (fst0 i s) n = true ∧ okN zs ys i x z (fst0 i y) n = true ∧ valB (enS zs ys i c s h x y z n).1 = true ∧ valB (enS zs ys i c s h x y z n).2 = true
  | 0, _ => ⟨rfl, rfl, rfl, rfl⟩
  | n + 1, e => by
    unfold tlB at e
    simp only [Bool.and_eq_true] at e
    obtain ⟨⟨⟨g1, g2⟩, g3⟩, g4, g5⟩ := e
    obtain ⟨k1, k2, -, -⟩ := tlB_ok g1
    refine ⟨?_, ?_, g4, g5⟩
    · show (okN zs ys i c h (fst0 i s) n && nxB zs ys i c h (runS zs ys i c h (fst0 i s) n)) = true
      rw [k1, g2]; rfl
    · show (okN zs ys i x z (fst0 i y) n && nxB zs ys i x z (runS zs ys i x z (fst0 i y) n)) = true
      rw [k2, g3]; rfl
theorem valB_le {a b : Int} (h0 : 0 ≤ a) (h : a ≤ b) (hb : valB b = true) : valB a = true := by
  unfold valB at hb ⊢
  simp at hb ⊢
  omega
theorem tlB_of {zs ys : List Int} {i : Nat} {c s h x y z : Int} (r : RyOk zs ys i c s h) (q : RyOk zs ys i x y z) : ∀ {n : Nat}, okN zs ys i c h (fst0 i s) n = true → okN zs ys i x z (fst0 i y) n = true → valB (enS zs ys i c s h x y z n).1 = true → valB (enS zs ys i c s h x y z n).2 = true → tlB zs ys i c s h x y z n = true
  | 0, _, _, _, _ => rfl
  | n + 1, e1, e2, v1, v2 => by
    have u := enS_up r q e1 e2 (Nat.le_refl (n + 1))
    have p := enS_in r q e1 e2 n (by omega)
    have ih := tlB_of r q (okN_less e1 (show n ≤ n + 1 by omega)) (okN_less e2 (show n ≤ n + 1 by omega)) (valB_le p.1 u.1 v1) (valB_le (by omega) u.2 v2)
    have n1 : (okN zs ys i c h (fst0 i s) n && nxB zs ys i c h (runS zs ys i c h (fst0 i s) n)) = true := e1
    have n2 : (okN zs ys i x z (fst0 i y) n && nxB zs ys i x z (runS zs ys i x z (fst0 i y) n)) = true := e2
    rw [Bool.and_eq_true] at n1 n2
    unfold tlB
    rw [ih, n1.2, n2.2, v1, v2]
    rfl
theorem enS_two {zs ys : List Int} {i : Nat} {c s h x y z : Int} (r : RyOk zs ys i c s h) (q : RyOk zs ys i x y z) {N : Nat} (e1 : okN zs ys i c h (fst0 i s) N = true) (e2 : okN zs ys i x z (fst0 i y) N = true) : ∀ n : Nat, n ≤ N →
    (enS zs ys i c s h x y z n).2 ≤ (runS zs ys i c h (fst0 i s) n).hi + (runS zs ys i x z (fst0 i y) n).hi
  | 0, _ => by show (0 : Int) ≤ 0 + 0; omega
  | n + 1, hn => by
    have ih := enS_two r q e1 e2 n (by omega)
    have a1 := SOk.ad r (SOk.run r (SOk.first r) (okN_less e1 (show n ≤ N by omega)))
    have a2 := SOk.ad q (SOk.run q (SOk.first q) (okN_less e2 (show n ≤ N by omega)))
    show (enS zs ys i c s h x y z n).2 + mxI _ _ ≤ ((runS zs ys i c h (fst0 i s) n).hi + adHi zs ys i c h (runS zs ys i c h (fst0 i s) n).k (runS zs ys i c h (fst0 i s) n).dn) + ((runS zs ys i x z (fst0 i y) n).hi + adHi zs ys i x z (runS zs ys i x z (fst0 i y) n).k (runS zs ys i x z (fst0 i y) n).dn)
    unfold mxI
    split <;> omega
theorem hsB_self (zs ys : List Int) (i : Nat) (c s h : Int) : ∀ n, hsB zs ys i c s h c s h n = true
  | 0 => rfl
  | n + 1 => by unfold hsB; rw [hsB_self zs ys i c s h n]; simp
theorem tlB_no {zs ys : List Int} {i : Nat} {c s h x y z : Int} (r : RyOk zs ys i c s h) (q : RyOk zs ys i x y z) (hd : (decide (0 < s) == decide (0 < y)) = true) {n : Nat} (hn : n ≤ 100) (e1 : okN zs ys i c h (fst0 i s) n = true) (e2 : okN zs ys i x z (fst0 i y) n = true) (hs : hsB zs ys i c s h x y z n = false) : tlB zs ys i c s h x y z n = true := by
  have hne : z * c ≠ h * x := by
    intro e
    have g := (flat_iff r.od q.od).1 (by rw [Int.mul_comm c z, Int.mul_comm x h]; exact e)
    have s0 := r.od
    rcases g with ⟨rfl, rfl, rfl⟩ | ⟨rfl, rfl, rfl⟩
    · rw [hsB_self] at hs; cases hs
    · have hz := r.od.s0
      have hd' : (0 < s) ↔ (0 < -s) := by simpa using hd
      omega
  have t := two_up r q hne hn e1 e2
  have g := enS_two r q e1 e2 n (Nat.le_refl n)
  have p := enS_in r q e1 e2 n (Nat.le_refl n)
  have v2 : valB (enS zs ys i c s h x y z n).2 = true := by unfold valB; simp; omega
  exact tlB_of r q e1 e2 (valB_le p.1 p.2.1 v2) v2
end
end Go.Proofs.Ytgecbfbmmbfnmaa
