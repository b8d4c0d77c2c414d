/- Contracts of lists of correlations, of pulses of bits, of signals turned, the program's and the model's. -/
import Derived.Test.YtlahgdhofakinaaPuS
import Derived.Deep.RegionHeld3
import Derived.Laws.MakeOwn
import Derived.Deep.AppendLies
namespace Go.Proofs.Ytlahgdhofakinaa
open Go.ChangeShapes Go.WideShapes Go.ChangeAt Go.RowKit Go.Shelf Num
set_option linter.unusedVariables false
set_option linter.unusedSimpArgs false
theorem ownA_nil (W : World) (lo : Nat) (h : lo ≤ W.heap.size) : OwnA W lo W.heap.size none 0 [] := ⟨World.ownsRow_nil _ _ _ _, fun g e => by simp [Value.ownBlock] at e, Nat.le_refl _⟩
theorem ownA_row {w1 W : World} {g c n lo : Nat} {L : List Int} (h : RowG w1 2 1 g c n (L.map iv4) W) (hl : L.length = n) (hlo : lo ≤ w1.heap.size) : OwnA W lo W.heap.size (some ⟨g, 0, none⟩) c L := by
  subst hl
  exact ⟨World.ownsRow.mono h.own hlo, fun g e => (h.own.lt g e).2, Nat.le_refl _⟩
/-- a row made with zeros -/
theorem rowG_zeros (w : World) (n : Nat) (hn : n ≤ maxLen) : RowG w 2 1 w.heap.size n n ((List.replicate n 0).map iv4) (w.alloc (.cells (madeCells #[.int .i64 0] n) 2)) :=
  ⟨by
    have h := World.ownsRow_lit (base := w.heap.size) (e := 2) (size := 1) w (madeCells #[.int .i64 0] n) n (Nat.le_refl _) hn (by simp [size_madeCells])
    have e : (madeCells #[.int .i64 0] n).toList = (List.replicate n 0).map iv4 := by
      apply List.ext_getElem (by simp [size_madeCells])
      intro i h1 h2
      simp [madeCells, iv4, Nat.mod_one]
    rwa [e] at h, (Below.refl _ _).alloc (Nat.le_refl _) _⟩
theorem RowG.set {w1 W : World} {g c n : Nat} {L : List Int} (h : RowG w1 2 1 g c n (L.map iv4) W) (j : Nat) (x : Int) : RowG w1 2 1 g c n ((L.set j x).map iv4) (W.setCell ⟨g, j, none⟩ (.int .i64 x)) :=
  ⟨own_set h.own j x, h.bel.setCell (by have := h.lo; simp; omega) _⟩
theorem RowG.at1 {w1 W : World} {g c n : Nat} {L : List Int} (h : RowG w1 2 1 g c n (L.map iv4) W) {j : Nat} (hj : j < n) (hl : L.length = n) : W.cell? ⟨g, j, none⟩ = some (.int .i64 (L.getD j 0)) := by
  rw [h.own.cellAt j (by omega), List.getElem?_map, List.getElem?_eq_getElem (by omega), List.getD_eq_getElem?_getD, List.getElem?_eq_getElem (by omega)]; rfl
def crL (zs : List Int) : List Int := if sigB zs then corL zs zs.length else []
theorem crL_len (zs : List Int) : (crL zs).length ≤ 400 := by
  unfold crL
  split
  · rename_i h
    rw [corL_len]; exact (sigB_t h).1
  · simp

end Go.Proofs.Ytlahgdhofakinaa
