/- Two integers at the head of a block, kept over calls, new blocks and draws. -/
import Derived.Test.YthbcllejojnboaaDrw
namespace Go.Proofs.Ythbcllejojnboaa
open Go.ChangeShapes Go.WideShapes Go.ChangeAt Go.RowKit
set_option linter.unusedVariables false
/-- two integers at the head of a block -/
def Pair (w : World) (g : Nat) (a b : Int) : Prop := w.cell? ⟨g, 0, none⟩ = some (.int .i64 a) ∧ w.cell? ⟨g, 1, none⟩ = some (.int .i64 b)
theorem Pair.lt {w : World} {g : Nat} {a b : Int} (h : Pair w g a b) : g < w.heap.size := World.block_lt_of_cell? w _ h.1
theorem Pair.keep {W w : World} {g : Nat} {a b : Int} (h : Pair W g a b) (hb : Below W.heap.size W w) : Pair w g a b := ⟨(hb.cell (p := ⟨g, 0, none⟩) h.lt).trans h.1, (hb.cell (p := ⟨g, 1, none⟩) h.lt).trans h.2⟩
theorem Pair.alloc {w : World} {g : Nat} {a b : Int} (h : Pair w g a b) (o : Obj) : Pair (w.alloc o) g a b := h.keep ((Below.refl _ _).alloc (Nat.le_refl _) o)
theorem Pair.new (w : World) (a b : Int) (t : TypeId) : Pair (w.alloc (.cells #[.int .i64 a, .int .i64 b] t)) w.heap.size a b := ⟨by simp [go_sem], by simp [go_sem]⟩
theorem Pair.new2 (w : World) (o : Obj) (a b : Int) (t : TypeId) : Pair ((w.alloc o).alloc (.cells #[.int .i64 a, .int .i64 b] t)) (w.heap.size + 1) a b := ⟨by simp [go_sem], by simp [go_sem]⟩
theorem Pair.grown {w w1 : World} {s g : Nat} {a b : Int} (h : Pair w g a b) (hg : w.grownBy w1 (some s)) (hs : g ≠ s) : Pair w1 g a b := ⟨cell_keep h.1 hg hs, cell_keep h.2 hg hs⟩
end Go.Proofs.Ythbcllejojnboaa
