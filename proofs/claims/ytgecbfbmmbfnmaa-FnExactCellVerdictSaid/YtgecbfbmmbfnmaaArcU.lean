/- Contracts of TurnDepth and ArcRadius, the model's. -/
import Derived.Test.YtgecbfbmmbfnmaaArcT
import Derived.StillTailTactics
import Derived.Deep.QuietTactic
import Derived.BigQuiet
namespace Go.Proofs.Ytgecbfbmmbfnmaa
open Go.ChangeShapes Go.WideShapes Go.ChangeAt Go.RowKit Go.Shelf Num
set_option linter.unusedVariables false
set_option linter.unusedSimpArgs false in
theorem set2_ne {w : World} {p m o : Nat} {a b v : Value} (hne : ¬ m = p) (h : w.cell? ⟨m, o, none⟩ = some v) : ((w.setCell ⟨p, 0, none⟩ a).setCell ⟨p, 1, none⟩ b).cell? ⟨m, o, none⟩ = some v := by simp [h, hne, go_sem]
theorem bel_set2 {w W : World} {B p : Nat} {a b : Value} (h : Below B w W) (hp : B ≤ p) : Below B w ((W.setCell ⟨p, 0, none⟩ a).setCell ⟨p, 1, none⟩ b) := (h.setCell (p := ⟨p, 0, none⟩) hp _).setCell (p := ⟨p, 1, none⟩) hp _
/-- the two lists of a profile in memory, six elements of them -/
theorem six_at {w : World} {a b : Option Addr} {zs ys : List Int} (hp : Prof w w.heap.size a b zs ys) {k1 k2 k3 l1 l2 l3 : Nat} (h1 : k1 < zs.length) (h2 : k2 < zs.length) (h3 : k3 < zs.length) (g1 : l1 < ys.length) (g2 : l2 < ys.length) (g3 : l3 < ys.length) :
    ∃ p o p' o', a = some ⟨p, o, none⟩ ∧ b = some ⟨p', o', none⟩ ∧ p < w.heap.size ∧ p' < w.heap.size ∧ w.cell? ⟨p, o + k1, none⟩ = some (.int .i64 (zs.getD k1 0)) ∧ w.cell? ⟨p, o + k2, none⟩ = some (.int .i64 (zs.getD k2 0)) ∧ w.cell? ⟨p, o + k3, none⟩ = some (.int .i64 (zs.getD k3 0)) ∧
      w.cell? ⟨p', o' + l1, none⟩ = some (.int .i64 (ys.getD l1 0)) ∧ w.cell? ⟨p', o' + l2, none⟩ = some (.int .i64 (ys.getD l2 0)) ∧ w.cell? ⟨p', o' + l3, none⟩ = some (.int .i64 (ys.getD l3 0)) := by
  obtain ⟨p, o, e1, hlp, a1⟩ := hp.dz (by omega)
  obtain ⟨p', o', e2, hlq, a2⟩ := hp.sy (by omega)
  exact ⟨p, o, p', o', e1, e2, hlp, hlq, a1 k1 h1, a1 k2 h2, a1 k3 h3, a2 l1 g1, a2 l2 g2, a2 l3 g3⟩
theorem tdLo_n (zs ys : List Int) (i : Nat) (c h : Int) (l : Nat) (ab : Bool) : tdLo zs ys i c h l ab = if ab then zs.getD (anr l ab) 0 + (tdN zs ys i c h l ab).fdiv (riS ys c (anr l ab) (afr l ab)) else zs.getD (anr l ab) 0 - cdiv (tdN zs ys i c h l ab) (riS ys c (anr l ab) (afr l ab)) := by cases ab <;> rfl
theorem tdHi_n (zs ys : List Int) (i : Nat) (c h : Int) (l : Nat) (ab : Bool) : tdHi zs ys i c h l ab = if ab then zs.getD (anr l ab) 0 + cdiv (tdN zs ys i c h l ab) (riS ys c (anr l ab) (afr l ab)) else zs.getD (anr l ab) 0 - (tdN zs ys i c h l ab).fdiv (riS ys c (anr l ab) (afr l ab)) := by cases ab <;> rfl

end Go.Proofs.Ytgecbfbmmbfnmaa
