/- Results of four numbers. Contracts of MakeDirection and MirrorDirection, the program's and the model's. Runs on the set of directions: a map of two entries, keyed by structs of three integers. Contracts of CompareDirections, the program's and the model's, and of their helpers. Contracts of CompareDirections, the program's and the model's. -/
import Derived.Test.YtkjpjhklnaehbabDir
import Derived.Test.YtkjpjhklnaehbabDirI
import Derived.Test.YtkjpjhklnaehbabDirS
import Derived.Deep.RegionHeld3
namespace Go.Proofs.Ytkjpjhklnaehbab
open Go.ChangeShapes Go.WideShapes Go.ChangeAt Go.RowKit Num
set_option linter.unusedVariables false
/-- a result of four numbers, of which three are a struct -/
theorem res4 {t : Int × Int × Int × Int} {a b c d : Int} (h : t = (a, b, c, d)) : Ending.returned (.tuple #[.agg #[.int .i64 a, .int .i64 b, .int .i64 c], .int .i64 d]) = .returned (.tuple #[.agg #[.int .i64 t.1, .int .i64 t.2.1, .int .i64 t.2.2.1], .int .i64 t.2.2.2]) := by subst h; rfl
/-- the mirrored direction, and the code -/
def miT (c s h : Int) : Int × Int × Int × Int := if dirB c s h then (c, -s, h, 0) else (0, 0, 0, 1)
end Go.Proofs.Ytkjpjhklnaehbab
namespace Go.Proofs.Ytkjpjhklnaehbab
open Go.ChangeShapes Go.WideShapes Go.ChangeAt Go.RowKit Num
set_option linter.unusedVariables false

end Go.Proofs.Ytkjpjhklnaehbab
namespace Go.Proofs.Ytkjpjhklnaehbab
open Go.ChangeShapes Go.WideShapes Go.ChangeAt Go.RowKit Num
set_option linter.unusedVariables false
theorem eq3 (w : World) (a b c x y z : Int) : (Op.equal 34 (.agg #[.int .i64 a, .int .i64 b, .int .i64 c]) (.agg #[.int .i64 x, .int .i64 y, .int .i64 z])).run Try.prog w = .ok (a == x && (b == y && c == z)) w := by
  show (Op.equalIn 10000 34 (.agg #[.int .i64 a, .int .i64 b, .int .i64 c]) (.agg #[.int .i64 x, .int .i64 y, .int .i64 z])).run Try.prog w = _
  cases h1 : (a == x) <;> cases h2 : (b == y) <;> cases h3 : (c == z) <;> simp [go_sem, h1, h2, h3]
theorem ckk1 (w : World) (e : Bool) (a : Int) : (Instr.checkKey e 9999 2 (.int .i64 a)).run Try.prog w = .ok () w := MapKept.run_checkKey (n := 9998) Try.underlying2 (by simp [MapKept.IsKey]) e
theorem ck3 (w : World) (e : Bool) (a b c : Int) : (Instr.checkKey e 10000 34 (.agg #[.int .i64 a, .int .i64 b, .int .i64 c])).run Try.prog w = .ok () w := by
  rw [show (10000 : Nat) = 9998 + 1 + 1 from rfl]
  unfold Instr.checkKey
  simp [go_sem, ckk1]
/-- a map's block is written -/
def setM (w : World) (r : Nat) (o : Obj) : World := { w with heap := w.heap.setIfInBounds r o }
/-- an entry of the set -/
def en3 (a b c : Int) (k : Nat) : MapEntry := { key := .agg #[.int .i64 a, .int .i64 b, .int .i64 c], val := .bool true, born := k }
end Go.Proofs.Ytkjpjhklnaehbab
namespace Go.Proofs.Ytkjpjhklnaehbab
open Go.ChangeShapes Go.WideShapes Go.ChangeAt Go.RowKit Num
set_option linter.unusedVariables false
/-- the set of two directions, in a block of a world -/
def Set2 (w w' : World) (c s h : Int) (m : Nat) : Prop := ∃ k j n, w'.heap[m]? = some (.map #[en3 c s h k, en3 c (-s) h j] n) ∨ w'.heap[m]? = some (.map #[en3 c (-s) h k, en3 c s h j] n)

theorem setM_at {w : World} {r : Nat} {o : Obj} (h : r < w.heap.size) : (setM w r o).heap[r]? = some o := by simp [setM, h]
theorem al2_at {w : World} {r : Nat} {x : Obj} (o o' : Obj) (h : w.heap[r]? = some x) : ((w.alloc o).alloc o').heap[r]? = some x := by
  have hlt := (Array.getElem?_eq_some_iff.1 h).1
  rw [Below.heap_alloc (w.alloc o) o' r (by simp; omega), Below.heap_alloc w o r hlt]; exact h
theorem setM_cell (v : World) (r m : Nat) (o : Obj) (k : Nat) (h : ¬ r = m) : (setM v r o).cell? ⟨m, k, none⟩ = v.cell? ⟨m, k, none⟩ :=
  World.cell?_of_block (w := v) (w' := setM v r o) (a := ⟨m, k, none⟩) (by
    show (v.heap.setIfInBounds r o)[m]? = _
    rw [Array.getElem?_setIfInBounds_ne h])
theorem setM_size (w : World) (r : Nat) (o : Obj) : (setM w r o).heap.size = w.heap.size := by simp [setM]
theorem setM_bel {W w : World} {B r : Nat} {o : Obj} (h : Below B W w) (hr : B ≤ r) : Below B W (setM w r o) := ⟨h.os, h.tape, h.output, by rw [setM_size]; exact h.size, fun k hk => by
  show (w.heap.setIfInBounds r o)[k]? = _
  rw [Array.getElem?_setIfInBounds_ne (by omega)]
  exact h.block k hk⟩
theorem at3 {W w2 : World} {m : Nat} {v0 v1 v2 : Value} {t : TypeId} (h : Bk W m #[v0, v1, v2] t) (hb : Below W.heap.size W w2) :
    w2.cell? ⟨m, 0, none⟩ = some v0 ∧ w2.cell? ⟨m, 1, none⟩ = some v1 ∧ w2.cell? ⟨m, 2, none⟩ = some v2 ∧ Below W.heap.size W w2 := ⟨(h.on hb).cell 0 rfl, (h.on hb).cell 1 rfl, (h.on hb).cell 2 rfl, hb⟩
end Go.Proofs.Ytkjpjhklnaehbab
namespace Go.Proofs.Ytkjpjhklnaehbab
open Go.ChangeShapes Go.WideShapes Go.ChangeAt Go.RowKit Num
set_option linter.unusedVariables false
theorem cd_no {c s h x y z : Int} (e : (dirB c s h && dirB x y z) = false) : cdV c s h x y z = 0 ∧ cdC c s h x y z = 1 := by unfold cdV cdC; rw [e]; exact ⟨rfl, rfl⟩
theorem cd_ok {c s h x y z : Int} (e : (dirB c s h && dirB x y z) = true) : cdV c s h x y z = sgn (c * z) (x * h) ∧ cdC c s h x y z = 0 := by unfold cdV cdC; rw [e]; exact ⟨rfl, rfl⟩
theorem ret2i {a b a' b' : Int} (h : a' = a ∧ b' = b) : Ending.returned (.tuple #[.int .i64 a, .int .i64 b]) = .returned (.tuple #[.int .i64 a', .int .i64 b']) := by rw [h.1, h.2]
theorem at33 {W w2 : World} {m n : Nat} {v0 v1 v2 u0 u1 u2 : Value} {t t' : TypeId} (h : Bk W m #[v0, v1, v2] t) (g : Bk W n #[u0, u1, u2] t') (hb : Below W.heap.size W w2) :
    w2.cell? ⟨m, 0, none⟩ = some v0 ∧ w2.cell? ⟨m, 1, none⟩ = some v1 ∧ w2.cell? ⟨m, 2, none⟩ = some v2 ∧ w2.cell? ⟨n, 0, none⟩ = some u0 ∧ w2.cell? ⟨n, 1, none⟩ = some u1 ∧ w2.cell? ⟨n, 2, none⟩ = some u2 ∧ Below W.heap.size W w2 :=
  ⟨(h.on hb).cell 0 rfl, (h.on hb).cell 1 rfl, (h.on hb).cell 2 rfl, (g.on hb).cell 0 rfl, (g.on hb).cell 1 rfl, (g.on hb).cell 2 rfl, hb⟩
theorem set2_flat {c s h x y z : Int} (o : DirOk c s h) (p : DirOk x y z) : ((x == c && (y == s && z == h)) || (x == c && (y == -s && z == h))) = decide (c * z = x * h) := by
  rw [Bool.eq_iff_iff, decide_eq_true_eq, flat_iff o p]
  simp

end Go.Proofs.Ytkjpjhklnaehbab
