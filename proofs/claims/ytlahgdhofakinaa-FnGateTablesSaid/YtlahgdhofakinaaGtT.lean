/- The model's draws of the arguments of MoveOn, AreContacts, ContactsIn, GateCost. -/
import Derived.Test.YtlahgdhofakinaaGtS
namespace Go.Proofs.Ytlahgdhofakinaa
open Go.ChangeShapes Go.WideShapes Go.ChangeAt Go.RowKit Go.Shelf Num
set_option linter.unusedVariables false
set_option linter.unusedSimpArgs false

theorem ne_src {W : World} {s g : Nat} {cs : Array Value} (h : Src W s) (b : Bk W g cs 2) : ¬ g = s := by
  rintro rfl
  obtain ⟨a, cap, zs, k, seed, hb0, -⟩ := h
  have e := (show W.heap[g]? = _ from b).symm.trans hb0
  simp only [Option.some.injEq, Obj.cells.injEq] at e
  exact absurd e.2.1 (by decide)
theorem Cts.blk {W W' : World} {B g : Nat} {ps : List (Int × Int)} (h : Cts W B (some ⟨g, 0, none⟩) ps) (he : W'.heap[g]? = W.heap[g]?) : Cts W' B (some ⟨g, 0, none⟩) ps := fun hp => by
  obtain ⟨b, off, e, hB, hc⟩ := h hp
  simp only [Option.some.injEq, Addr.mk.injEq, and_true] at e
  obtain ⟨e1, e2⟩ := e
  subst e1 e2
  exact ⟨g, 0, rfl, hB, fun j hj => ⟨(World.cell?_of_block (w := W) (a := ⟨g, 0 + j * 2, none⟩) he).trans (hc j hj).1, (World.cell?_of_block (w := W) (a := ⟨g, 0 + j * 2 + 1, none⟩) he).trans (hc j hj).2⟩⟩
theorem Cts.fit {W : World} {B : Nat} {a : Option Addr} {ps : List (Int × Int)} (h : Cts W B a ps) : Cts W W.heap.size a ps := fun hp => by
  obtain ⟨b, off, e, hB, hc⟩ := h hp
  exact ⟨b, off, e, cell_lt (hc 0 hp).1, hc⟩
theorem set5_far {W : World} {b g : Nat} (h : g ≠ b) (v0 v1 v2 v3 v4 : Value) : (((((W.setCell ⟨b, 0, none⟩ v0).setCell ⟨b, 1, none⟩ v1).setCell ⟨b, 2, none⟩ v2).setCell ⟨b, 3, none⟩ v3).setCell ⟨b, 4, none⟩ v4).heap[g]? = W.heap[g]? :=
  (Below.heap_setCell _ ⟨b, 4, none⟩ v4 g h).trans ((Below.heap_setCell _ ⟨b, 3, none⟩ v3 g h).trans ((Below.heap_setCell _ ⟨b, 2, none⟩ v2 g h).trans ((Below.heap_setCell _ ⟨b, 1, none⟩ v1 g h).trans (Below.heap_setCell _ ⟨b, 0, none⟩ v0 g h))))
def MnD (w : World) (e : Ending) (w' : World) : Prop := ∃ x y u v t n : Int, e = .returned (.tuple #[.agg #[.int .i64 x, .int .i64 y, .int .i64 u, .int .i64 v, .int .i64 t], .int .i64 n]) ∧ Below w.heap.size w w'
def McD (w : World) (e : Ending) (w' : World) : Prop := ∃ x y u v t p q : Int, e = .returned (.tuple #[.agg #[.int .i64 x, .int .i64 y, .int .i64 u, .int .i64 v, .int .i64 t], .agg #[.int .i64 p, .int .i64 q]]) ∧ Below w.heap.size w w'
def ClD (w : World) (e : Ending) (w' : World) : Prop := ∃ (a : Option Addr) (c : Nat) (ps : List (Int × Int)), e = .returned (.slice a ps.length c) ∧ ps.length ≤ 7 ∧ Cts w' w'.heap.size a ps ∧ Below w.heap.size w w'
def MlD (w : World) (e : Ending) (w' : World) : Prop := ∃ (x y u v t : Int) (a : Option Addr) (c : Nat) (ps : List (Int × Int)), e = .returned (.tuple #[.agg #[.int .i64 x, .int .i64 y, .int .i64 u, .int .i64 v, .int .i64 t], .slice a ps.length c]) ∧ ps.length ≤ 7 ∧ Cts w' w'.heap.size a ps ∧ Below w.heap.size w w'

end Go.Proofs.Ytlahgdhofakinaa
