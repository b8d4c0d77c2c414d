/- Traces of a ray: the facts behind their law. -/
import Derived.Test.YtaaklnabomhleaaRyX
namespace Go.Proofs.Ytaaklnabomhleaa
open Go.ChangeShapes Go.WideShapes Go.ChangeAt Go.RowKit Go.Shelf Num
set_option linter.unusedVariables false
theorem fcod_tc {zs ys : List Int} {src c s h n : Int} (e : tcod zs ys src c s h n = 0) : fcod zs ys src c s h = 0 := by
  by_cases q : fcod zs ys src c s h = 0
  · exact q
  · unfold tcod at e; rw [if_neg q] at e; exact e
theorem eos_ok {zs ys : List Int} {i : Nat} {c s h : Int} {x : RSt} (e : fcod zs ys (i : Int) c s h = 0) (o : SOk zs ys i c h x) : eosT zs ys (i : Int) c s h (x.k : Int) x.lo x.hi = 0 := by
  unfold fcod rcod at e
  obtain ⟨h1, h2, h3, -⟩ := rcT_0 e
  have hk : hkB zs (x.k : Int) = true := by have := o.kl; unfold hkB; simp; omega
  have hr : rcod zs ys (i : Int) c s h (x.k : Int) = 0 := by unfold rcod rcT; rw [h1, h2, h3, hk]; rfl
  have l0 := o.l0
  have lh := o.lh
  have h1' := o.h1
  have hv : vldB x.lo x.hi = true := by unfold vldB valB; simp; omega
  unfold eosT
  rw [if_pos hr, o.cr, hv, decide_eq_true l0]
  rfl
theorem srt_ok {zs ys : List Int} {i : Nat} {c s h : Int} {x : RSt} (e : fcod zs ys (i : Int) c s h = 0) (o : SOk zs ys i c h x) (hb : nxB zs ys i c h x = true) :
    sryT zs ys (i : Int) c s h (x.k : Int) x.dn x.lo x.hi = (((nxt zs ys i c h x).k : Int), (nxt zs ys i c h x).dn, (nxt zs ys i c h x).lo, (nxt zs ys i c h x).hi, evV zs ys i c h x.k x.dn, 0) := by
  unfold sryT
  rw [if_pos (eos_ok e o), Int.toNat_natCast, Int.toNat_natCast, if_pos hb]
theorem okN_nx {zs ys : List Int} {i : Nat} {c h : Int} {x : RSt} {n k : Nat} (h' : okN zs ys i c h x n = true) (hk : k < n) : nxB zs ys i c h (runS zs ys i c h x k) = true := by
  have g := okN_less h' (show k + 1 ≤ n by omega)
  unfold okN at g
  rw [Bool.and_eq_true] at g
  exact g.2
/-- what the law of traces asks of each event -/
theorem tr_fact {zs ys : List Int} {src c s h n : Int} (e : tcod zs ys src c s h n = 0) :
    ∃ i N : Nat, src = (i : Int) ∧ n = (N : Int) ∧ N ≤ 100 ∧ fsT zs ys src c s h = ((i : Int), decide (0 < s), 0, 0, 0) ∧ runS zs ys i c h (fst0 i s) 0 = ⟨i, decide (0 < s), 0, 0⟩ ∧
      ∀ k, k < N → sryT zs ys src c s h ((runS zs ys i c h (fst0 i s) k).k : Int) (runS zs ys i c h (fst0 i s) k).dn (runS zs ys i c h (fst0 i s) k).lo (runS zs ys i c h (fst0 i s) k).hi
          = (((runS zs ys i c h (fst0 i s) (k + 1)).k : Int), (runS zs ys i c h (fst0 i s) (k + 1)).dn, (runS zs ys i c h (fst0 i s) (k + 1)).lo, (runS zs ys i c h (fst0 i s) (k + 1)).hi, evV zs ys i c h (runS zs ys i c h (fst0 i s) k).k (runS zs ys i c h (fst0 i s) k).dn, 0)
        ∧ eosT zs ys src c s h ((runS zs ys i c h (fst0 i s) (k + 1)).k : Int) (runS zs ys i c h (fst0 i s) (k + 1)).lo (runS zs ys i c h (fst0 i s) (k + 1)).hi = 0
        ∧ (runS zs ys i c h (fst0 i s) k).lo ≤ (runS zs ys i c h (fst0 i s) (k + 1)).lo ∧ (runS zs ys i c h (fst0 i s) k).hi ≤ (runS zs ys i c h (fst0 i s) (k + 1)).hi := by
  have ef := fcod_tc e
  obtain ⟨i, N, rfl, rfl, hN, r, hok⟩ := tcod_0 e
  refine ⟨i, N, rfl, rfl, hN, ?_, rfl, ?_⟩
  · unfold fsT; rw [if_pos ef]
  · intro k hk
    have o1 := SOk.run r (SOk.first r) (okN_less hok (show k ≤ N by omega))
    have o2 := SOk.run r (SOk.first r) (okN_less hok (show k + 1 ≤ N by omega))
    have hb := okN_nx hok hk
    obtain ⟨a1, a2, a3⟩ := o1.ad r
    refine ⟨srt_ok ef o1 hb, eos_ok ef o2, ?_, ?_⟩
    · show _ ≤ (runS zs ys i c h (fst0 i s) k).lo + adLo zs ys i c h (runS zs ys i c h (fst0 i s) k).k (runS zs ys i c h (fst0 i s) k).dn
      omega
    · show _ ≤ (runS zs ys i c h (fst0 i s) k).hi + adHi zs ys i c h (runS zs ys i c h (fst0 i s) k).k (runS zs ys i c h (fst0 i s) k).dn
      omega
end Go.Proofs.Ytaaklnabomhleaa
