/- The walks of the exact laws of functions of two intervals: each returns true and writes nothing that was there. -/
import Derived.Test.YtcaekheghjnipabDoorIvl2
import Derived.Deep.RegionHeld3
import Derived.Deep.DeepCutAuto
import Derived.Deep.DrawnRows
import Derived.Outline
namespace Go.Proofs.YtcaekheghjnipabDoor
open Go.ChangeShapes Go.WideShapes Go.ChangeAt Go.RowKit
set_option linter.unusedVariables false
attribute [local go_sem ↓] Go.wp_at_zero Go.wp_at_succ

/-- two boxed arguments, read in a later world -/
theorem keep4 {W w2 : World} {m n : Nat} {v0 v1 v2 v3 : Value} (c0 : W.cell? ⟨m, 0, none⟩ = some v0) (c1 : W.cell? ⟨m, 1, none⟩ = some v1) (c2 : W.cell? ⟨n, 0, none⟩ = some v2) (c3 : W.cell? ⟨n, 1, none⟩ = some v3)
    (h : Below W.heap.size W w2) :
    w2.cell? ⟨m, 0, none⟩ = some v0 ∧ w2.cell? ⟨m, 1, none⟩ = some v1 ∧ w2.cell? ⟨n, 0, none⟩ = some v2 ∧ w2.cell? ⟨n, 1, none⟩ = some v3 ∧ Below W.heap.size W w2 :=
  ⟨(h.cell (p := ⟨m, 0, none⟩) (World.block_lt_of_cell? W _ c0)).trans c0, (h.cell (p := ⟨m, 1, none⟩) (World.block_lt_of_cell? W _ c1)).trans c1,
   (h.cell (p := ⟨n, 0, none⟩) (World.block_lt_of_cell? W _ c2)).trans c2, (h.cell (p := ⟨n, 1, none⟩) (World.block_lt_of_cell? W _ c3)).trans c3, h⟩
theorem keep1 {W w2 : World} {m o : Nat} {v0 : Value} (c0 : W.cell? ⟨m, o, none⟩ = some v0) (h : Below W.heap.size W w2) : w2.cell? ⟨m, o, none⟩ = some v0 := (h.cell (p := ⟨m, o, none⟩) (World.block_lt_of_cell? W _ c0)).trans c0

theorem set2_cells {w : World} {p : Nat} {a b x y : Value} (h0 : w.cell? ⟨p, 0, none⟩ = some x) (h1 : w.cell? ⟨p, 1, none⟩ = some y) :
    ((w.setCell ⟨p, 0, none⟩ a).setCell ⟨p, 1, none⟩ b).cell? ⟨p, 0, none⟩ = some a ∧ ((w.setCell ⟨p, 0, none⟩ a).setCell ⟨p, 1, none⟩ b).cell? ⟨p, 1, none⟩ = some b := by
  constructor <;> simp [h0, h1, go_sem]
theorem lt_trans_rule {x y z : Nat} (h : ∀ b, b < x → b < y) (g : ∀ b, b < y → b < z) : ∀ b, b < x → b < z := fun b hb => g b (h b hb)
/-- a result of a struct and a code lies in a block of the call's own -/
def Res2 (W wx : World) (s5 s6 : Value) (a b c : Int) : Prop :=
  ∃ g : Nat, s5 = .pointer (some ⟨g, 0, none⟩) ∧ s6 = .int .i64 c ∧ wx.cell? ⟨g, 0, none⟩ = some (.int .i64 a) ∧ wx.cell? ⟨g, 1, none⟩ = some (.int .i64 b) ∧ W.heap.size ≤ g ∧ Below W.heap.size W wx

end Go.Proofs.YtcaekheghjnipabDoor
