/- Rows of structs of one's own: made, grown by append, read, kept. -/
import Derived.Test.YtlahgdhofakinaaPrs
import Derived.OwnWalk
import Derived.Laws.OwnMore
import Derived.Laws.MakeOwn
import Derived.Deep.AppendLies
namespace Go.Proofs.Ytlahgdhofakinaa
open Go.ChangeShapes Go.WideShapes Go.ChangeAt Go.RowKit Go.Shelf
set_option linter.unusedVariables false
set_option linter.unusedSimpArgs false
/-- the cells of the elements, one behind the other -/
def rowL (f : Nat → List Value) (n : Nat) : List Value := (List.range n).flatMap f
theorem rowL_0 (f : Nat → List Value) : rowL f 0 = [] := rfl
theorem rowL_succ (f : Nat → List Value) (n : Nat) : rowL f (n + 1) = rowL f n ++ f n := by simp [rowL, List.range_succ]
theorem rowL_len {f : Nat → List Value} {m : Nat} (hf : ∀ j, (f j).length = m) : ∀ n, (rowL f n).length = n * m
  | 0 => by simp [rowL]
  | n + 1 => by rw [rowL_succ, List.length_append, rowL_len hf n, hf, Nat.succ_mul]
theorem rowL_at {f : Nat → List Value} {m : Nat} (hf : ∀ j, (f j).length = m) {n j r : Nat} (hj : j < n) (hr : r < m) : (rowL f n)[j * m + r]? = (f j)[r]? := by
  induction n with
  | zero => omega
  | succ n ih =>
    rw [rowL_succ]
    have hl := rowL_len hf n
    rcases Nat.lt_or_ge j n with l | l
    · have h1 : j * m + r < n * m := by
        have := Nat.mul_le_mul_right m (show j + 1 ≤ n by omega)
        rw [Nat.succ_mul] at this
        omega
      rw [List.getElem?_append_left (by omega)]
      exact ih l
    · obtain rfl : j = n := by omega
      rw [List.getElem?_append_right (by omega), hl, show j * m + r - j * m = r by omega]
theorem own_atG {w w' : World} {B n m : Nat} {t : TypeId} {a : Option Addr} {c : Nat} {xs : List Value} (h : w.ownsRow B t m (.slice a n c) n xs) (hk : ∀ g, (Value.slice a n c).ownBlock = some g → w'.heap[g]? = w.heap[g]?) : w'.ownsRow B t m (.slice a n c) n xs := by
  refine ⟨h.1, ?_⟩
  rcases h.2 with h' | ⟨g, cap, cur, hv, hb, hg, rest⟩
  · exact Or.inl h'
  · exact Or.inr ⟨g, cap, cur, hv, hb, (hk g (by rw [hv]; rfl)).trans hg, rest⟩
/-- a row that grows behind the world w1, not nil -/
structure RowG (w1 : World) (t : TypeId) (m g c n : Nat) (L : List Value) (W : World) : Prop where
  own : W.ownsRow w1.heap.size t m (.slice (some ⟨g, 0, none⟩) n c) n L
  bel : Below w1.heap.size w1 W
theorem RowG.lo {w1 W : World} {t : TypeId} {m g c n : Nat} {L : List Value} (h : RowG w1 t m g c n L W) : w1.heap.size ≤ g := (h.own.lt g rfl).1
theorem RowG.up {w1 W : World} {t : TypeId} {m g c n : Nat} {L : List Value} (h : RowG w1 t m g c n L W) : g < W.heap.size := (h.own.lt g rfl).2
theorem RowG.on {w1 W W' : World} {t : TypeId} {m g c n : Nat} {L : List Value} (h : RowG w1 t m g c n L W) (hb : Below W.heap.size W W') : RowG w1 t m g c n L W' := ⟨own_bel h.own hb, bel_end h.bel hb⟩
theorem RowG.at_ {w1 W W' : World} {t : TypeId} {m g c n : Nat} {L : List Value} (h : RowG w1 t m g c n L W) (hk : W'.heap[g]? = W.heap[g]?) (hb : Below w1.heap.size w1 W') : RowG w1 t m g c n L W' :=
  ⟨own_atG h.own (fun g' e => by simp [Value.ownBlock] at e; subst e; exact hk), hb⟩
theorem RowG.made {w1 W : World} {t : TypeId} {m g c : Nat} {Z : Array Value} (h : Bk W g (madeCells Z (c * m)) t) (hg : w1.heap.size ≤ g) (hc : c ≤ maxLen) (hb : Below w1.heap.size w1 W) : RowG w1 t m g c 0 [] W :=
  ⟨⟨by simp, Or.inr ⟨g, c, _, rfl, hg, h, Nat.zero_le _, hc, size_madeCells _ _, by simp⟩⟩, hb⟩
theorem RowG.lit {w1 W : World} {t : TypeId} {m g : Nat} (h : Bk W g #[] t) (hg : w1.heap.size ≤ g) (hb : Below w1.heap.size w1 W) : RowG w1 t m g 0 0 [] W :=
  ⟨⟨by simp, Or.inr ⟨g, 0, _, rfl, hg, h, Nat.zero_le _, by unfold maxLen; omega, by simp, by simp⟩⟩, hb⟩
theorem RowG.snoc {w1 W w9 : World} {t : TypeId} {m g c n g' cap : Nat} {L news : List Value} (h : RowG w1 t m g c n L W) (hown : w9.ownsRow w1.heap.size t m (.slice (some ⟨g', 0, none⟩) (n + 1) cap) (n + 1) (L ++ news)) (hgrow : W.grownBy w9 (some g)) : RowG w1 t m g' cap (n + 1) (L ++ news) w9 :=
  ⟨hown, h.bel.grown hgrow h.bel.size (fun k e => by injection e with e; subst e; exact h.lo)⟩
theorem RowG.blk {w1 W : World} {t : TypeId} {m g c n : Nat} {L : List Value} (h : RowG w1 t m g c n L W) : ∃ cur, Bk W g cur t := by
  rcases h.own.2 with ⟨h', -⟩ | ⟨g', cap, cur, hv, _, hg, _⟩
  · simp at h'
  · simp only [Value.slice.injEq, Option.some.injEq, Addr.mk.injEq] at hv
    obtain ⟨⟨rfl, -⟩, -⟩ := hv
    exact ⟨cur, hg⟩
theorem RowG.ne {w1 W : World} {t t' : TypeId} {m g c n B : Nat} {L : List Value} {cs : Array Value} (h : RowG w1 t m g c n L W) (b : Bk W B cs t') (ht : t ≠ t') : g ≠ B := by
  rintro rfl
  obtain ⟨cur, hc⟩ := h.blk
  have := (show W.heap[g]? = _ from hc).symm.trans b
  simp only [Option.some.injEq, Obj.cells.injEq] at this
  exact ht this.2.1
theorem RowG.cap {w1 W : World} {t : TypeId} {m g c n : Nat} {L : List Value} (h : RowG w1 t m g c n L W) : n ≤ c := by
  rcases h.own.2 with ⟨h', -⟩ | ⟨g', cap, cur, hv, _, _, hle, _⟩
  · simp at h'
  · simp only [Value.slice.injEq] at hv; omega
/-- an element's cell -/
theorem RowG.cell {w1 W : World} {t : TypeId} {m g c n : Nat} {f : Nat → List Value} (h : RowG w1 t m g c n (rowL f n) W) (hf : ∀ j, (f j).length = m) {j r : Nat} (hj : j < n) (hr : r < m) {v : Value} (hv : (f j)[r]? = some v) : W.cell? ⟨g, j * m + r, none⟩ = some v := by
  have := h.own.cells (g := g) rfl _ _ ((rowL_at hf hj hr).trans hv)
  unfold Addr.add at this
  split at this <;> simp_all
end Go.Proofs.Ytlahgdhofakinaa
