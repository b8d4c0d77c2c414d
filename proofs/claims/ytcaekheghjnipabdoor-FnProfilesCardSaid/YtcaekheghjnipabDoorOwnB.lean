/- Rows of numbers of one's own: kept over calls, read. -/
import Derived.Test.YtcaekheghjnipabDoorKnots
import Derived.OwnWalk
import Derived.Laws.OwnMore
namespace Go.Proofs.YtcaekheghjnipabDoor
open Go.ChangeShapes Go.WideShapes Go.ChangeAt Go.RowKit Go.Shelf
set_option linter.unusedVariables false
def iv4 (n : Int) : Value := .int .i64 n
theorem own_bel {w w' : World} {B k n : Nat} {e : TypeId} {v : Value} {xs : List Value} (h : w.ownsRow B e k v n xs) (hb : Below w.heap.size w w') : w'.ownsRow B e k v n xs := h.kept (grown_none hb) (by
  cases hv : v.ownBlock with
  | none => exact Or.inl rfl
  | some x => exact Or.inr (by simp))
theorem own_caps {w : World} {B n c : Nat} {a : Option Addr} {e : TypeId} {xs : List Value} (h : w.ownsRow B e 1 (.slice a n c) n xs) : n ≤ c := by
  rcases h.2 with ⟨h', h0⟩ | ⟨g, cap, cur, h', _, _, hle, _⟩
  · omega
  · simp only [Value.slice.injEq] at h'; omega
theorem own_ints {w : World} {B c : Nat} {a : Option Addr} {L : List Int} (h : w.ownsRow B 2 1 (.slice a L.length c) L.length (L.map iv4)) : Ints .i64 w w.heap.size a L := fun hp => by
  rcases h.2 with ⟨h', h0⟩ | ⟨g, cap, cur, h', hb, hg, hle, _⟩
  · omega
  · simp only [Value.slice.injEq] at h'
    obtain ⟨rfl, -, rfl⟩ := h'
    refine ⟨g, 0, rfl, (h.lt g (by simp [Value.ownBlock])).2, fun j hj => ?_⟩
    rw [Nat.zero_add, h.cellAt j (by omega), List.getElem?_map, List.getElem?_eq_getElem hj, List.getD_eq_getElem?_getD, List.getElem?_eq_getElem hj]
    rfl
end Go.Proofs.YtcaekheghjnipabDoor
