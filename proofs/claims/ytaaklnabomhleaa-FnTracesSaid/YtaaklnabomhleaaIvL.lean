/- Intervals below a mark of the memory. -/
import Derived.Test.YtaaklnabomhleaaIvs
import Derived.Test.YtaaklnabomhleaaRyX
namespace Go.Proofs.Ytaaklnabomhleaa
open Go.ChangeShapes Go.WideShapes Go.ChangeAt Go.RowKit Go.Shelf Num
set_option linter.unusedVariables false
/-- intervals below a mark -/
structure IvsL (w : World) (L : Nat) (a : Option Addr) (ps : List (Int × Int)) : Prop where
  at_ : Ivs w L a ps
  le : L ≤ w.heap.size
theorem IvsL.of {w : World} {a : Option Addr} {ps : List (Int × Int)} (h : Ivs w w.heap.size a ps) : IvsL w w.heap.size a ps := ⟨h, Nat.le_refl _⟩
theorem IvsL.on {w w' : World} {L : Nat} {a : Option Addr} {ps : List (Int × Int)} (h : IvsL w L a ps) (hb : Below w.heap.size w w') : IvsL w' L a ps := ⟨h.at_.below (hb.mono h.le), Nat.le_trans h.le hb.size⟩
theorem IvsL.ivs {w : World} {L : Nat} {a : Option Addr} {ps : List (Int × Int)} (h : IvsL w L a ps) : Ivs w w.heap.size a ps := h.at_.more h.le
/-- the numbers of the pairs in their order -/
def flP (ps : List (Int × Int)) : List Int := ps.flatMap fun p => [p.1, p.2]
theorem flP_len (ps : List (Int × Int)) : (flP ps).length = 2 * ps.length := by
  induction ps with
  | nil => rfl
  | cons p q ih => simp only [flP, List.flatMap_cons, List.length_append, List.length_cons, List.length_nil] at ih ⊢; omega
theorem prC_flP (ps : List (Int × Int)) : prC ps = (flP ps).map iv4 := by
  induction ps with
  | nil => rfl
  | cons p q ih => simp only [prC, flP, List.flatMap_cons, List.map_append] at ih ⊢; rw [ih]; rfl
theorem flP_at (ps : List (Int × Int)) : ∀ j : Nat, j < ps.length → (flP ps)[2 * j]? = some (ps.getD j (0, 0)).1 ∧ (flP ps)[2 * j + 1]? = some (ps.getD j (0, 0)).2 := by
  induction ps with
  | nil => intro j hj; simp at hj
  | cons p q ih =>
    intro j hj
    cases j with
    | zero => exact ⟨rfl, rfl⟩
    | succ j =>
      have := ih j (by simpa using hj)
      exact ⟨by simpa [flP, Nat.mul_add] using this.1, by simpa [flP, Nat.mul_add] using this.2⟩
theorem OwnI.ivs {w : World} {lo hi : Nat} {a : Option Addr} {c : Nat} {ps : List (Int × Int)} (h : OwnI w lo hi a c ps) : Ivs w w.heap.size a ps := fun hp => by
  rcases h.own.2 with ⟨h', h0⟩ | ⟨g, cap, cur, h', hb, hg, hle, _⟩
  · omega
  · simp only [Value.slice.injEq] at h'
    obtain ⟨rfl, -, rfl⟩ := h'
    refine ⟨g, 0, rfl, (h.own.lt g (by simp [Value.ownBlock])).2, fun j hj => ?_⟩
    have hf := flP_at ps j hj
    rw [Nat.zero_add, h.own.cellAt (j * 2) (by omega), h.own.cellAt (j * 2 + 1) (by omega), prC_flP, List.getElem?_map, List.getElem?_map, show j * 2 = 2 * j from Nat.mul_comm _ _, hf.1, hf.2]
    exact ⟨rfl, rfl⟩
end Go.Proofs.Ytaaklnabomhleaa
