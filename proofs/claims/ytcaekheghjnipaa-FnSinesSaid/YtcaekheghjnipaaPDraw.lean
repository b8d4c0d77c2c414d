/- Contracts of the model's draws of two intervals out of a code. -/
import Derived.Test.YtcaekheghjnipaaSDraw
namespace Go.Proofs.Ytcaekheghjnipaa
open Go.ChangeShapes Go.WideShapes Go.ChangeAt Go.RowKit
set_option linter.unusedVariables false
/-- what a draw of two intervals out of a code leaves -/
def TwoIv (w : World) (e : Ending) (w' : World) : Prop :=
  ∃ x y u v : Int, e = .returned (.tuple #[.agg #[.int .i64 x, .int .i64 y], .agg #[.int .i64 u, .int .i64 v]]) ∧ Below w.heap.size w w'
/-- the source, two results' blocks and the old blocks, in a later world of a draw -/
def Ctx2 (w wq : World) (s : Nat) : Prop := Src wq s ∧ (Rzz wq w.heap.size ∧ Rzz wq (w.heap.size + 1)) ∧ Below w.heap.size w wq ∧ w.heap.size + 1 < s
theorem Ctx2.alloc {w wq : World} {s : Nat} (h : Ctx2 w wq s) (o : Obj) : Ctx2 w (wq.alloc o) s :=
  ⟨h.1.alloc o, ⟨kz h.2.1.1 ((Below.refl _ _).alloc (Nat.le_refl _) o), kz h.2.1.2 ((Below.refl _ _).alloc (Nat.le_refl _) o)⟩, h.2.2.1.alloc h.2.2.1.size o, h.2.2.2⟩
theorem Ctx2.next {w wq wr : World} {s : Nat} (h : Ctx2 w wq s) (hs : Src wr s) (hg : wq.grownBy wr (some s)) : Ctx2 w wr s :=
  ⟨hs, ⟨h.2.1.1.keep2 hg (by have := h.2.2.2; omega), h.2.1.2.keep2 hg (by have := h.2.2.2; omega)⟩, below_src h.2.2.1 hg (by have := h.2.2.2; omega) (Nat.le_refl _), h.2.2.2⟩
/-- the start: the results' blocks are made, then the source -/
theorem ctx2_start {w w1 : World} {s : Nat} (hs : ((w.alloc (.cells #[.int .i64 0, .int .i64 0] 47)).alloc (.cells #[.int .i64 0, .int .i64 0] 47)).heap.size ≤ s) (hsrc : Src w1 s)
    (hb : Below ((w.alloc (.cells #[.int .i64 0, .int .i64 0] 47)).alloc (.cells #[.int .i64 0, .int .i64 0] 47)).heap.size ((w.alloc (.cells #[.int .i64 0, .int .i64 0] 47)).alloc (.cells #[.int .i64 0, .int .i64 0] 47)) w1) : Ctx2 w w1 s :=
  ⟨hsrc, ⟨kz ⟨⟨by simp [go_sem], by simp [go_sem]⟩, by simp [go_sem], by simp [go_sem]⟩ hb, kz ⟨⟨by simp [go_sem], by simp [go_sem]⟩, by simp [go_sem], by simp [go_sem]⟩ hb⟩, bel_end (below_refl2 _ _ _) hb, by simp at hs; omega⟩
theorem ctx2_end {w wq : World} {s : Nat} {a b c d : Value} (h : Ctx2 w wq s) : Below w.heap.size w ((((wq.setCell ⟨w.heap.size, 0, none⟩ a).setCell ⟨w.heap.size, 1, none⟩ b).setCell ⟨w.heap.size + 1, 0, none⟩ c).setCell ⟨w.heap.size + 1, 1, none⟩ d) :=
  (((h.2.2.1.setCell (Nat.le_refl _) _).setCell (Nat.le_refl _) _).setCell (Nat.le_succ _) _).setCell (Nat.le_succ _) _
def three : List Int := [-1000001, -1000000, 0]
theorem pick_three (w : World) (s b cap : Nat) (h : Src w s) (hb : ¬ b = s) (hk : w.heap[b]? = some (.cells #[.int .i64 (-1000001), .int .i64 (-1000000), .int .i64 0] 2 (0, 0))) :
    Calls Try.prog 102 #[.pointer (some ⟨s, 0, none⟩), .slice (some ⟨b, 0, none⟩) 3 cap] w (Picked w s three) :=
  pick_n w s b cap 3 three h rfl hb (by decide) (by decide) (fun j hj => (cell_of_row w b j _ _ _ hk).trans (match j, hj with
    | 0, _ => rfl
    | 1, _ => rfl
    | 2, _ => rfl)) (by obtain ⟨hlt, _⟩ := Array.getElem?_eq_some_iff.1 hk; exact hlt)
def pair : List Int := [1000000, 1000001]
theorem pick_pair (w : World) (s b cap : Nat) (h : Src w s) (hb : ¬ b = s) (hk : w.heap[b]? = some (.cells #[.int .i64 1000000, .int .i64 1000001] 2 (0, 0))) :
    Calls Try.prog 102 #[.pointer (some ⟨s, 0, none⟩), .slice (some ⟨b, 0, none⟩) 2 cap] w (Picked w s pair) :=
  pick_n w s b cap 2 pair h rfl hb (by decide) (by decide) (fun j hj => (cell_of_row w b j _ _ _ hk).trans (match j, hj with
    | 0, _ => rfl
    | 1, _ => rfl)) (by obtain ⟨hlt, _⟩ := Array.getElem?_eq_some_iff.1 hk; exact hlt)
end Go.Proofs.Ytcaekheghjnipaa
