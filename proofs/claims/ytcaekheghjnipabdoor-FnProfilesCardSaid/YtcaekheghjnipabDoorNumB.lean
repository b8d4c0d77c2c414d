/- Contracts of values, ranges and absolute values, the program's and the model's. -/
import Derived.Test.YtcaekheghjnipabDoorRows
import Derived.WalkKit
import Derived.ProofKit
import Derived.OpenShut
import Derived.Below
import Derived.Deep.Draws
import Derived.Lib.Hide
namespace Go.Proofs.YtcaekheghjnipabDoor
open Go.ChangeShapes Go.WideShapes Go.ChangeAt Go.RowKit
set_option linter.unusedVariables false
theorem bel_drewN {B : Nat} {a w : World} (h : Below B a w) (n : Nat) : Below B a (w.drewN n) := ⟨h.os, h.tape, h.output, h.size, h.block⟩
/-- one step more behind a call that leaves all old blocks alone -/
theorem bel_step {B : Nat} {w w1 w2 : World} (h : Below B w w1) (g : Below w1.heap.size w1 w2) (hB : B ≤ w.heap.size) : Below B w w2 := h.trans (g.mono (Nat.le_trans hB h.size))
theorem bel_end {w W w' : World} (g : Below w.heap.size w W) (h : Below W.heap.size W w') : Below w.heap.size w w' := g.trans (h.mono g.size)
/-- cells and marks of old blocks, as rules -/
theorem bel_rules {B : Nat} {W w1 : World} (hb : Below B W w1) : (∀ b o, b < B → w1.cell? ⟨b, o, none⟩ = W.cell? ⟨b, o, none⟩) ∧ (∀ b o, b < B → w1.frozen? ⟨b, o, none⟩ = W.frozen? ⟨b, o, none⟩) ∧ (∀ b, b < W.heap.size → b < w1.heap.size) :=
  ⟨fun b o h => hb.cell (p := ⟨b, o, none⟩) h, fun b o h => hb.frozen (p := ⟨b, o, none⟩) h, fun b h => Nat.lt_of_lt_of_le h hb.size⟩
theorem bel_in {B : Nat} {W w1 w2 : World} (g : Below w1.heap.size w1 w2) (h : Below B W w1) (hB : B ≤ W.heap.size) : Below B W w2 := h.trans (g.mono (Nat.le_trans hB h.size))
theorem bel_al {B : Nat} {W w1 : World} {o : Obj} (h : Below B W w1) (hB : B ≤ W.heap.size) : Below B W (w1.alloc o) := h.alloc (Nat.le_trans hB h.size) o
/-- a value: an integer from -10^12 to 10^12 -/
def valB (x : Int) : Bool := decide (-1000000000000 ≤ x ∧ x ≤ 1000000000000)
theorem valB_t {x : Int} (h : valB x = true) : -1000000000000 ≤ x ∧ x ≤ 1000000000000 := by unfold valB at h; exact of_decide_eq_true h
theorem valB_f {x : Int} (h : valB x = false) : x < -1000000000000 ∨ 1000000000000 < x := by
  unfold valB at h; have := of_decide_eq_false h; omega
theorem valB_mk {x : Int} (h : -1000000000000 ≤ x) (g : x ≤ 1000000000000) : valB x = true := by unfold valB; exact decide_eq_true ⟨h, g⟩
theorem valB_lo {x : Int} (h : x < -1000000000000) : valB x = false := by unfold valB; exact decide_eq_false (by omega)
theorem valB_hi {x : Int} (h : 1000000000000 < x) : valB x = false := by unfold valB; exact decide_eq_false (by omega)

theorem ret_int {k : IntKind} {a b : Int} (h : a = b) : Ending.returned (.int k a) = .returned (.int k b) := by rw [h]
theorem ret_bool {a b : Bool} (h : a = b) : Ending.returned (.bool a) = .returned (.bool b) := by rw [h]
/-- a number of a range -/
def inB (n lo hi : Int) : Bool := decide (lo ≤ n ∧ n ≤ hi)
theorem inB_t {n lo hi : Int} (h : inB n lo hi = true) : lo ≤ n ∧ n ≤ hi := by unfold inB at h; exact of_decide_eq_true h
theorem inB_mk {n lo hi : Int} (h : lo ≤ n) (g : n ≤ hi) : inB n lo hi = true := by unfold inB; exact decide_eq_true ⟨h, g⟩
theorem inB_f {n lo hi : Int} (h : inB n lo hi = false) : n < lo ∨ hi < n := by
  unfold inB at h; have := of_decide_eq_false h; omega
theorem inB_lo {n lo hi : Int} (h : n < lo) : inB n lo hi = false := by unfold inB; exact decide_eq_false (by omega)
theorem inB_hi {n lo hi : Int} (h : hi < n) : inB n lo hi = false := by unfold inB; exact decide_eq_false (by omega)
theorem lin_any (n lo hi : Int) (w : World) :
    Calls Tryd.prog 54 #[.int .i64 n, .int .i64 lo, .int .i64 hi] w fun e w' => e = .returned (.bool (inB n lo hi)) ∧ w = w' := by
  by_cases h1 : n < lo
  · go_enter Tryd.func54, Tryd.ntmps54
    go_wp2
    go_ret
    exact ⟨ret_bool (by rw [inB_lo h1]), rfl⟩
  · by_cases h2 : hi < n
    · go_enter Tryd.func54, Tryd.ntmps54
      go_wp2
      go_ret
      exact ⟨ret_bool (by rw [inB_hi h2]; exact decide_eq_false (by omega)), rfl⟩
    · go_enter Tryd.func54, Tryd.ntmps54
      go_wp2
      go_ret
      exact ⟨ret_bool (by rw [inB_mk (by omega) (by omega)]), rfl⟩

end Go.Proofs.YtcaekheghjnipabDoor
