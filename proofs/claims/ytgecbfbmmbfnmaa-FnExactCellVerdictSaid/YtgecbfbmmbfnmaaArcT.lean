/- Contracts of arcIn, LayerVerdict, TurnDepth and ArcRadius, the program's. -/
import Derived.Test.YtgecbfbmmbfnmaaArc2
import Derived.Test.YtgecbfbmmbfnmaaArcS
namespace Go.Proofs.Ytgecbfbmmbfnmaa
open Go.ChangeShapes Go.WideShapes Go.ChangeAt Go.RowKit Go.Shelf Num
set_option linter.unusedVariables false
theorem Bk.set8 {W : World} {B : Nat} {t : TypeId} {u0 u1 u2 u3 u4 u5 u6 u7 : Value} (v0 v1 v2 v3 v4 v5 v6 v7 : Value) (h : Bk W B #[u0, u1, u2, u3, u4, u5, u6, u7] t) :
    Bk ((((((((W.setCell ⟨B, 0, none⟩ v0).setCell ⟨B, 1, none⟩ v1).setCell ⟨B, 2, none⟩ v2).setCell ⟨B, 3, none⟩ v3).setCell ⟨B, 4, none⟩ v4).setCell ⟨B, 5, none⟩ v5).setCell ⟨B, 6, none⟩ v6).setCell ⟨B, 7, none⟩ v7) B #[v0, v1, v2, v3, v4, v5, v6, v7] t := by
  have h0 := h.set (cs' := #[v0, u1, u2, u3, u4, u5, u6, u7]) 0 v0 (by simp)
  have h1 := h0.set (cs' := #[v0, v1, u2, u3, u4, u5, u6, u7]) 1 v1 (by simp)
  have h2 := h1.set (cs' := #[v0, v1, v2, u3, u4, u5, u6, u7]) 2 v2 (by simp)
  have h3 := h2.set (cs' := #[v0, v1, v2, v3, u4, u5, u6, u7]) 3 v3 (by simp)
  have h4 := h3.set (cs' := #[v0, v1, v2, v3, v4, u5, u6, u7]) 4 v4 (by simp)
  have h5 := h4.set (cs' := #[v0, v1, v2, v3, v4, v5, u6, u7]) 5 v5 (by simp)
  have h6 := h5.set (cs' := #[v0, v1, v2, v3, v4, v5, v6, u7]) 6 v6 (by simp)
  have h7 := h6.set (cs' := #[v0, v1, v2, v3, v4, v5, v6, v7]) 7 v7 (by simp)
  exact h7
theorem bel8 {w W : World} {B C : Nat} (v0 v1 v2 v3 v4 v5 v6 v7 : Value) (h : Below C w W) (hB : C ≤ B) :
    Below C w ((((((((W.setCell ⟨B, 0, none⟩ v0).setCell ⟨B, 1, none⟩ v1).setCell ⟨B, 2, none⟩ v2).setCell ⟨B, 3, none⟩ v3).setCell ⟨B, 4, none⟩ v4).setCell ⟨B, 5, none⟩ v5).setCell ⟨B, 6, none⟩ v6).setCell ⟨B, 7, none⟩ v7) :=
  (((((((h.setCell (p := ⟨B, 0, none⟩) hB _).setCell (p := ⟨B, 1, none⟩) hB _).setCell (p := ⟨B, 2, none⟩) hB _).setCell (p := ⟨B, 3, none⟩) hB _).setCell (p := ⟨B, 4, none⟩) hB _).setCell (p := ⟨B, 5, none⟩) hB _).setCell (p := ⟨B, 6, none⟩) hB _).setCell (p := ⟨B, 7, none⟩) hB _

theorem td_eq {zs ys : List Int} {i : Nat} {c s h : Int} (r : RyOk zs ys i c s h) {l : Nat} {ab : Bool} (hR : 0 < riS ys c (anr l ab) (afr l ab)) :
    (zs.getD (anr l ab) 0 * riS ys c (anr l ab) (afr l ab) + (zs.getD (afr l ab) 0 - zs.getD (anr l ab) 0) * (h * ys.getD i 0 - c * ys.getD (anr l ab) 0)).fdiv (riS ys c (anr l ab) (afr l ab)) = tdLo zs ys i c h l ab ∧
    cdiv (zs.getD (anr l ab) 0 * riS ys c (anr l ab) (afr l ab) + (zs.getD (afr l ab) 0 - zs.getD (anr l ab) 0) * (h * ys.getD i 0 - c * ys.getD (anr l ab) 0)) (riS ys c (anr l ab) (afr l ab)) = tdHi zs ys i c h l ab := by
  rw [fdiv_add hR, cdiv_add hR]
  unfold tdLo tdHi tdN zD
  cases ab
  · rw [if_neg (by simp), if_neg (by simp)]
    have e : (zs.getD (afr l false) 0 - zs.getD (anr l false) 0) * (h * ys.getD i 0 - c * ys.getD (anr l false) 0) = -((zs.getD (l + 1) 0 - zs.getD l 0) * (h * ys.getD i 0 - c * ys.getD (anr l false) 0)) := by
      rw [← Int.neg_mul]
      show (zs.getD l 0 - zs.getD (l + 1) 0) * _ = _
      rw [show zs.getD l 0 - zs.getD (l + 1) 0 = -(zs.getD (l + 1) 0 - zs.getD l 0) by omega]
    rw [e, fdiv_neg', cdiv_neg']
    exact ⟨(Int.sub_eq_add_neg).symm, (Int.sub_eq_add_neg).symm⟩
  · rw [if_pos rfl, if_pos rfl]
    exact ⟨rfl, rfl⟩
theorem rd_eq {zs ys : List Int} {i : Nat} {c s h : Int} (r : RyOk zs ys i c s h) {l : Nat} (hl : l + 1 < zs.length) :
    h * ys.getD i 0 * ((zs.getD (l + 1) 0 - zs.getD l 0).natAbs : Int) = rdN zs ys i h l ∧ ((riS ys c l (l + 1)).natAbs : Int) = rdW ys c l := by
  have hz := r.z hl
  have hc := r.od.c1
  unfold zD at hz
  refine ⟨?_, ?_⟩
  · unfold rdN zD
    rw [show ((zs.getD (l + 1) 0 - zs.getD l 0).natAbs : Int) = zs.getD (l + 1) 0 - zs.getD l 0 by omega]
  · unfold riS rdW
    rw [Int.natAbs_mul, Int.natCast_mul, show ((c.natAbs : Nat) : Int) = c by omega]
theorem resA4 {t : Int × Int × Int} {x y e : Int} (h : t = (x, y, e)) : Ending.returned (.tuple #[.agg #[.int .i64 x, .int .i64 y], .int .i64 e]) = .returned (.tuple #[.agg #[.int .i64 t.1, .int .i64 t.2.1], .int .i64 t.2.2]) := by subst h; rfl

end Go.Proofs.Ytgecbfbmmbfnmaa
