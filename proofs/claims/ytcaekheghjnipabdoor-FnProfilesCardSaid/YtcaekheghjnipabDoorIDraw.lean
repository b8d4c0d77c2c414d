/- Contracts of the model's draws of intervals: of one, of a narrow one, of two. -/
import Derived.Test.YtcaekheghjnipabDoorFrom
import Derived.Test.YtcaekheghjnipabDoorIvl2
import Derived.Outline
namespace Go.Proofs.YtcaekheghjnipabDoor
open Go.ChangeShapes Go.WideShapes Go.ChangeAt Go.RowKit
set_option linter.unusedVariables false
/-- what a draw of an interval leaves -/
def IvDrawn (w : World) (s : Nat) (e : Ending) (w' : World) : Prop :=
  ∃ x y : Int, e = .returned (.agg #[.int .i64 x, .int .i64 y]) ∧ ((Lit.int .i64 x).wf = true ∧ (Lit.int .i64 y).wf = true) ∧ Src w' s ∧ w.grownBy w' (some s)
/-- block g begins with two zeros that may be written -/
def Rzz (w : World) (g : Nat) : Prop := (w.cell? ⟨g, 0, none⟩ = some (.int .i64 0) ∧ w.cell? ⟨g, 1, none⟩ = some (.int .i64 0)) ∧ w.frozen? ⟨g, 0, none⟩ = false ∧ w.frozen? ⟨g, 1, none⟩ = false
theorem grown_al {w w' : World} {s : Nat} (h : w.grownBy w' (some s)) (o : Obj) : w.grownBy (w'.alloc o) (some s) := grown_alloc h o
theorem rules_grown {w w' : World} {s : Nat} (h : w.grownBy w' (some s)) : (∀ b o, b < w.heap.size → (b == s) = false → w'.cell? ⟨b, o, none⟩ = w.cell? ⟨b, o, none⟩) ∧ (∀ b o, b < w.heap.size → (b == s) = false → w'.frozen? ⟨b, o, none⟩ = w.frozen? ⟨b, o, none⟩) := by
  refine ⟨fun b o hb hs => ?_, fun b o hb hs => ?_⟩
  · exact World.cell?_of_block (w := w) (a := ⟨b, o, none⟩) (h.block b hb (fun e => by injection e with e; subst e; simp at hs))
  · have := h.block b hb (fun e => by injection e with e; subst e; simp at hs)
    simp only [World.frozen?, this]

theorem Src.set_far {w : World} {s : Nat} {p : Addr} (h : Src w s) (hp : s < p.block) (v : Value) : Src (w.setCell p v) s := by
  obtain ⟨a, cap, zs, k, seed, hb, hc, rest⟩ := h
  exact ⟨a, cap, zs, k, seed, (Below.heap_setCell w p v s (by omega)).trans hb, hc.below (B' := s) ((Below.refl _ _).setCell (by omega) v) (Nat.le_refl _), rest⟩
theorem grown_set_new {w w' : World} {s : Nat} {p : Addr} (h : w.grownBy w' (some s)) (hp : w.heap.size ≤ p.block) (v : Value) : w.grownBy (w'.setCell p v) (some s) :=
  ⟨h.os, h.tape, h.output, by simpa using h.size, fun k hk hne => (Below.heap_setCell w' p v k (by omega)).trans (h.block k hk hne)⟩
/-- a new block of two zeros, read and written in a later world -/
theorem zero_in {w w1 : World} {s : Nat} {t : TypeId} (h : (w.alloc (.cells #[.int .i64 0, .int .i64 0] t)).grownBy w1 (some s)) (hs : s < w.heap.size) : Rzz w1 w.heap.size := by
  obtain ⟨hc, hf⟩ := rules_grown h
  have hne : (w.heap.size == s) = false := by simp; omega
  exact ⟨⟨(hc _ _ (by simp) hne).trans (by simp [go_sem]), (hc _ _ (by simp) hne).trans (by simp [go_sem])⟩, (hf _ _ (by simp) hne).trans (by simp [go_sem]), (hf _ _ (by simp) hne).trans (by simp [go_sem])⟩
theorem Rzz.keep {w w1 : World} {s g : Nat} (h : Rzz w g) (hg : w.grownBy w1 (some s)) (hs : s < g) : Rzz w1 g := by
  obtain ⟨hc, hf⟩ := rules_grown hg
  have hne : (g == s) = false := by simp; omega
  have hl := World.block_lt_of_cell? w _ h.1.1
  exact ⟨⟨(hc _ _ hl hne).trans h.1.1, (hc _ _ hl hne).trans h.1.2⟩, (hf _ _ hl hne).trans h.2.1, (hf _ _ hl hne).trans h.2.2⟩

/-- what a draw of two intervals leaves -/
def Iv2Drawn (w : World) (s : Nat) (e : Ending) (w' : World) : Prop :=
  ∃ x y u v : Int, e = .returned (.tuple #[.agg #[.int .i64 x, .int .i64 y], .agg #[.int .i64 u, .int .i64 v]]) ∧ ((Lit.int .i64 x).wf = true ∧ (Lit.int .i64 y).wf = true) ∧ ((Lit.int .i64 u).wf = true ∧ (Lit.int .i64 v).wf = true) ∧ Src w' s ∧ w.grownBy w' (some s)
theorem zero_in2 {w w1 : World} {s : Nat} {o : Obj} {t : TypeId} (h : ((w.alloc (.cells #[.int .i64 0, .int .i64 0] t)).alloc o).grownBy w1 (some s)) (hs : s < w.heap.size) : Rzz w1 w.heap.size :=
  zero_in (grown_trans (grown_alloc (grown_refl _ s) o) h) hs
end Go.Proofs.YtcaekheghjnipabDoor
