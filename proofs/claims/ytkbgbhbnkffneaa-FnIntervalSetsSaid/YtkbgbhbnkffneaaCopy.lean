/- Contracts of the laws' own helpers on slices of integers: a copy of a slice lies in new memory; two slices are compared element by element; a code is big from 4097 letters on. -/
import Derived.Test.YtkbgbhbnkffneaaMem
import Derived.Test.YtkbgbhbnkffneaaNum
import Derived.LoopTactic
import Derived.Deep.QuietTactic
import Derived.BigQuiet
import Derived.Deep.OwnRows
import Derived.Outline
namespace Go.Proofs.Ytkbgbhbnkffneaa
open Go.ChangeShapes Go.WideShapes Go.ChangeAt Go.RowKit Num
set_option linter.unusedVariables false
theorem info_i64 : (Try.prog.info? 2).map (fun i => (i.zero, i.size, i.bytes)) = some (some (.int .i64 0), 1, 8) := by kernel_rfl

/-- the numbers as the cells of a row -/
def cellsOf (zs : List Int) (i : Nat) : Value := .int .i64 (zs.getD i 0)
/-- a new slice that holds the numbers zs in a block of its own -/
def NewInts (w : World) (zs : List Int) (e : Ending) (w' : World) : Prop :=
  ∃ g, e = .returned (.slice (some ⟨g, 0, none⟩) zs.length zs.length) ∧ w.heap.size ≤ g ∧ w'.rowIs g 2 zs.length (cellsOf zs) ∧ Below w.heap.size w w'
theorem Ints.of_rowIs {w : World} {g : Nat} {t : TypeId} {zs : List Int} (h : w.rowIs g t zs.length (cellsOf zs)) : Ints .i64 w w.heap.size (some ⟨g, 0, none⟩) zs :=
  fun _ => ⟨g, 0, rfl, h.lt, fun j hj => by rw [Nat.zero_add]; exact h.cell hj⟩

def upto (zs : List Int) (k : Nat) (i : Nat) : Value := if i < k then .int .i64 (zs.getD i 0) else .int .i64 0

theorem eq_ext {xs ys : List Int} (hl : xs.length = ys.length) (h : ∀ i, i < xs.length → xs.getD i 0 = ys.getD i 0) : xs = ys := by
  apply List.ext_getElem hl
  intro i h1 h2
  have := h i h1
  rwa [List.getD_eq_getElem?_getD, List.getD_eq_getElem?_getD, List.getElem?_eq_getElem h1, List.getElem?_eq_getElem h2] at this
/-- two lists of numbers are the same -/
def sameB (xs ys : List Int) : Bool := decide (xs = ys)
theorem sameB_t {xs ys : List Int} (h : xs = ys) : sameB xs ys = true := by unfold sameB; exact decide_eq_true h
theorem sameB_f {xs ys : List Int} (h : xs ≠ ys) : sameB xs ys = false := by unfold sameB; exact decide_eq_false h

end Go.Proofs.Ytkbgbhbnkffneaa
