/- The walk of the law of products and quotients over drawn intervals. -/
import Derived.Test.YthbcllejojnboaaPMath
import Derived.Test.YthbcllejojnboaaDice
import Derived.Test.YthbcllejojnboaaDrw
import Derived.Test.YthbcllejojnboaaBas
namespace Go.Proofs.Ythbcllejojnboaa
open Go.ChangeShapes Go.WideShapes Go.ChangeAt Go.RowKit Num
set_option linter.unusedVariables false
attribute [local go_sem ↓] Go.wp_at_zero Go.wp_at_succ
theorem Code8.drew' {w : World} {B : Nat} {a : Option Addr} {zs : List Int} (h : Code8 w B a zs) : Code8 w.drew B a zs := ⟨h.ints, h.len, h.byte⟩
theorem Dice.drew {w : World} {s : Nat} (h : Dice w s) : Dice w.drew s := by
  obtain ⟨a, cap, zs, k, q, hb, hc, rest⟩ := h
  exact ⟨a, cap, zs, k, q, hb, hc.drew', rest⟩
theorem Dice.below {w w1 : World} {s : Nat} (h : Dice w s) (hb : Below w.heap.size w w1) : Dice w1 s := by
  obtain ⟨a, cap, zs, k, q, hb0, hc, rest⟩ := h
  have hlt : s < w.heap.size := (Array.getElem?_eq_some_iff.1 hb0).1
  exact ⟨a, cap, zs, k, q, (hb.block s hlt).trans hb0, hc.below hb (Nat.le_of_lt hlt), rest⟩
theorem qb_facts {k m : Int} (hk : -1000000000000 ≤ k ∧ k ≤ 1000000000000) (hm : -1000000000000 ≤ m ∧ m ≤ 1000000000000) (h0 : ¬ m = 0) : dcode k m = 0 ∧ qlo k m = k.fdiv m ∧ qhi k m = cdiv k m := by
  have hd : dcode k m = 0 := by
    unfold dcode
    rw [valB_mk hk.1 hk.2, valB_mk hm.1 hm.2, show (m == 0) = false by simpa using h0]; rfl
  exact ⟨hd, by unfold qlo; rw [if_pos hd], by unfold qhi; rw [if_pos hd]⟩
end Go.Proofs.Ythbcllejojnboaa
