/- The walks of the exact laws of AreContacts, ContactsIn, NearestIn: each returns true and writes nothing that was there. -/
import Derived.Test.YtlahgdhofakinaaGtF
import Derived.Test.YtlahgdhofakinaaGtN
import Derived.Test.YtlahgdhofakinaaPr2
import Derived.Test.YtlahgdhofakinaaPuX
namespace Go.Proofs.Ytlahgdhofakinaa
open Go.ChangeShapes Go.WideShapes Go.ChangeAt Go.RowKit Go.Shelf Num
set_option linter.unusedVariables false
set_option linter.unusedSimpArgs false

/-- a slice of contacts that came in, below a mark of the memory -/
structure CtL (w : World) (L : Nat) (a : Option Addr) (ps : List (Int × Int)) : Prop where
  at_ : Cts w L a ps
  le : L ≤ w.heap.size
theorem CtL.of {w : World} {a : Option Addr} {ps : List (Int × Int)} (h : Cts w w.heap.size a ps) : CtL w w.heap.size a ps := ⟨h, Nat.le_refl _⟩
theorem CtL.on {w w' : World} {L : Nat} {a : Option Addr} {ps : List (Int × Int)} (h : CtL w L a ps) (hb : Below w.heap.size w w') : CtL w' L a ps := ⟨h.at_.below (hb.mono h.le), Nat.le_trans h.le hb.size⟩
theorem CtL.kept {w w' : World} {L l i : Nat} {a : Option Addr} {ps : List (Int × Int)} (h : CtL w L a ps) (hk : Kept l i w w') (hd : L ≤ l) (hl : l ≤ w.heap.size) : CtL w' L a ps := ⟨h.at_.below ((hk.below hl).mono hd), Nat.le_trans h.le hk.size⟩
theorem CtL.rd {w : World} {L : Nat} {a : Option Addr} {ps : List (Int × Int)} (h : CtL w L a ps) : Cts w w.heap.size a ps := h.at_.more h.le
theorem Cts.of_row2 {w : World} {a : Option Addr} {len cap : Nat} {zs : List Int} (h : IsRow2 w a len cap zs) : len ≤ 9223372036854775807 ∧ len ≤ cap ∧ ∃ ps : List (Int × Int), ps.length = len ∧ Cts w w.heap.size a ps := by
  rcases h with ⟨rfl, rfl, rfl, rfl⟩ | ⟨x, rfl, hl, hm, hz, hc⟩
  · exact ⟨by omega, by omega, [], rfl, fun h => by simp at h⟩
  · unfold maxLen at hm
    refine ⟨by omega, hl, (List.range len).map (fun j => (zs.getD (j * 2) 0, zs.getD (j * 2 + 1) 0)), by simp, fun hp => ?_⟩
    have hp' : 0 < len := by simpa using hp
    obtain ⟨b, off, rfl, hcell⟩ := ints_at hc (by omega)
    refine ⟨b, off, rfl, cell_lt (hcell 0 (by omega)), fun j hj => ?_⟩
    have hj' : j < len := by simpa using hj
    rw [List.getD_eq_getElem?_getD]
    simp only [List.getElem?_map, List.getElem?_range hj', Option.map_some, Option.getD_some]
    exact ⟨hcell (j * 2) (by omega), hcell (j * 2 + 1) (by omega)⟩

end Go.Proofs.Ytlahgdhofakinaa
