/- Contracts of slices.Clone and slices.Reverse at lists of integers, of TurnSignal, the program's and the model's. -/
import Derived.Test.YtdkiikmmlfdlcaaPuL
import Derived.Lib.SliceRun
import Derived.Deep.RegionWith
namespace Go.Proofs.Ytdkiikmmlfdlcaa
open Go.ChangeShapes Go.WideShapes Go.ChangeAt Go.RowKit Go.Shelf Num
set_option linter.unusedVariables false
set_option linter.unusedSimpArgs false
/-- a copy -/
def Cloned (w : World) (n : Nat) (zs : List Int) (e : Ending) (w' : World) : Prop := ∃ (a' : Option Addr) (c' : Nat), e = .returned (.slice a' n c') ∧ zs.length = n ∧ OwnA w' w.heap.size w'.heap.size a' c' zs ∧ Below w.heap.size w w'
theorem one_iv4 {L : List Int} : ∀ u ∈ L.map iv4, u.oneCell' = true := by
  intro u hu
  obtain ⟨n, _, rfl⟩ := List.mem_map.1 hu
  rfl
theorem ints_cells {w : World} {B b off : Nat} {zs : List Int} (h : ∀ j, j < zs.length → w.cell? ⟨b, off + j, none⟩ = some (.int .i64 (zs.getD j 0))) : ∀ j u, (zs.map iv4)[j]? = some u → w.cell? ((⟨b, off, none⟩ : Addr).add j) = some u := by
  intro j u hu
  rw [Addr.add_lit]
  rw [List.getElem?_map] at hu
  rcases Nat.lt_or_ge j zs.length with hj | hj
  · rw [List.getElem?_eq_getElem hj] at hu
    simp only [Option.map_some, Option.some.injEq] at hu
    subst hu
    rw [h j hj, List.getD_eq_getElem?_getD, List.getElem?_eq_getElem hj]; rfl
  · rw [List.getElem?_eq_none hj] at hu; simp at hu
theorem own_at1 {W : World} {lo g c n : Nat} {L : List Int} (h : W.ownsRow lo 2 1 (.slice (some ⟨g, 0, none⟩) n c) n (L.map iv4)) {j : Nat} (hj : j < n) (hl : L.length = n) : W.cell? ⟨g, j, none⟩ = some (.int .i64 (L.getD j 0)) := by
  rw [h.cellAt j (by omega), List.getElem?_map, List.getElem?_eq_getElem (by omega), List.getD_eq_getElem?_getD, List.getElem?_eq_getElem (by omega)]; rfl

/-- a signal in the opposite order -/
def trL (zs : List Int) : List Int := if sigB zs then zs.reverse else []
theorem trL_len (zs : List Int) : (trL zs).length ≤ 400 := by
  unfold trL
  split
  · rename_i h
    rw [List.length_reverse]; exact (sigB_t h).1
  · simp
end Go.Proofs.Ytdkiikmmlfdlcaa
