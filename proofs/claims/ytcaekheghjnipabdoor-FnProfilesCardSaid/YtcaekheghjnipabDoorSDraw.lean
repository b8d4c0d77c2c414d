/- The contract of the model's draw of a scaled interval. -/
import Derived.Test.YtcaekheghjnipabDoorIDraw
import Derived.StillTailTactics
import Derived.Deep.RegionHeld3
import Derived.Deep.DrawnRows
import Derived.IntWalk
namespace Go.Proofs.YtcaekheghjnipabDoor
open Go.ChangeShapes Go.WideShapes Go.ChangeAt Go.RowKit
set_option linter.unusedVariables false
attribute [local go_sem ↓] Go.wp_at_zero Go.wp_at_succ
/-- what a draw of an interval and two numbers leaves -/
def ScDrawn (w : World) (e : Ending) (w' : World) : Prop :=
  ∃ x y n d : Int, e = .returned (.tuple #[.agg #[.int .i64 x, .int .i64 y], .int .i64 n, .int .i64 d]) ∧ Below w.heap.size w w'
theorem Code8.drew {w : World} {B : Nat} {a : Option Addr} {zs : List Int} (h : Code8 w B a zs) : Code8 w.drew B a zs := ⟨h.ints, h.len, h.byte⟩
theorem Src.drew {w : World} {s : Nat} (h : Src w s) : Src w.drew s := by
  obtain ⟨a, cap, zs, k, seed, hb, hc, rest⟩ := h
  exact ⟨a, cap, zs, k, seed, hb, hc.drew, rest⟩
theorem Rzz.drew {w : World} {g : Nat} (h : Rzz w g) : Rzz w.drew g := h
theorem kz {w w2 : World} {g : Nat} (h : Rzz w g) (hb : Below w.heap.size w w2) : Rzz w2 g := by
  have hl := World.block_lt_of_cell? w _ h.1.1
  exact ⟨⟨(hb.cell (p := ⟨g, 0, none⟩) hl).trans h.1.1, (hb.cell (p := ⟨g, 1, none⟩) hl).trans h.1.2⟩, (hb.frozen (p := ⟨g, 0, none⟩) hl).trans h.2.1, (hb.frozen (p := ⟨g, 1, none⟩) hl).trans h.2.2⟩
theorem Rzz.keep2 {w w1 : World} {s g : Nat} (h : Rzz w g) (hg : w.grownBy w1 (some s)) (hs : g ≠ s) : Rzz w1 g := by
  obtain ⟨hc, hf⟩ := rules_grown hg
  have hne : (g == s) = false := by simpa using hs
  have hl := World.block_lt_of_cell? w _ h.1.1
  exact ⟨⟨(hc _ _ hl hne).trans h.1.1, (hc _ _ hl hne).trans h.1.2⟩, (hf _ _ hl hne).trans h.2.1, (hf _ _ hl hne).trans h.2.2⟩
theorem cell_keep {w w1 : World} {s g o : Nat} {v : Value} (h : w.cell? ⟨g, o, none⟩ = some v) (hg : w.grownBy w1 (some s)) (hs : g ≠ s) : w1.cell? ⟨g, o, none⟩ = some v :=
  ((rules_grown hg).1 _ _ (World.block_lt_of_cell? w _ h) (by simpa using hs)).trans h
theorem below_refl2 (w : World) (o p : Obj) : Below w.heap.size w ((w.alloc o).alloc p) := ((Below.refl _ _).alloc (Nat.le_refl _) _).alloc (by simp) _
theorem below_src {B : Nat} {w w1 w2 : World} {s : Nat} (h : Below B w w1) (hg : w1.grownBy w2 (some s)) (hB : B ≤ s) (hw : B ≤ w.heap.size) : Below B w w2 := h.trans (below_of_grown hg hB (Nat.le_trans hw h.size))

/-- the source, the result's block and the old blocks, in a later world of a draw -/
def Ctx (w wq : World) (s : Nat) : Prop := Src wq s ∧ Rzz wq w.heap.size ∧ Below w.heap.size w wq ∧ w.heap.size < s
theorem Ctx.drew {w wq : World} {s : Nat} (h : Ctx w wq s) : Ctx w wq.drew s := ⟨h.1.drew, h.2.1.drew, h.2.2.1.drew, h.2.2.2⟩
theorem Ctx.alloc {w wq : World} {s : Nat} (h : Ctx w wq s) (o : Obj) : Ctx w (wq.alloc o) s :=
  ⟨h.1.alloc o, kz h.2.1 ((Below.refl _ _).alloc (Nat.le_refl _) o), h.2.2.1.alloc h.2.2.1.size o, h.2.2.2⟩
theorem Ctx.src {w wq : World} {s : Nat} (h : Ctx w wq s) : Src wq s := h.1
theorem Ctx.next {w wq wr : World} {s : Nat} (h : Ctx w wq s) (hs : Src wr s) (hg : wq.grownBy wr (some s)) : Ctx w wr s :=
  ⟨hs, h.2.1.keep2 hg (by have := h.2.2.2; omega), below_src h.2.2.1 hg (Nat.le_of_lt h.2.2.2) (Nat.le_refl _), h.2.2.2⟩
theorem heap_at_new {w : World} {o : Obj} {b : Nat} (e : b = w.heap.size) : (w.alloc o).heap[b]? = some o := by subst e; exact heap_alloc_new w o
theorem pick_n (w : World) (s b cap n : Nat) (zs : List Int) (h : Src w s) (hn : zs.length = n) (hb : ¬ b = s) (hl : 1 < n) (hl2 : n ≤ 1000) (hc : ∀ j, j < n → w.cell? ⟨b, j, none⟩ = some (.int .i64 (zs.getD j 0))) (hlt : b < w.heap.size) :
    Calls Tryd.prog 50 #[.pointer (some ⟨s, 0, none⟩), .slice (some ⟨b, 0, none⟩) n cap] w (Picked w s zs) := by
  subst hn
  exact pick_any w s b cap zs h hb hl hl2 hc hlt
def five : List Int := [1000000, 1000001, -1000000, -1000001, 3]
theorem pick_five (w : World) (s b cap : Nat) (h : Src w s) (hb : ¬ b = s) (hk : w.heap[b]? = some (.cells #[.int .i64 1000000, .int .i64 1000001, .int .i64 (-1000000), .int .i64 (-1000001), .int .i64 3] 2 (0, 0))) :
    Calls Tryd.prog 50 #[.pointer (some ⟨s, 0, none⟩), .slice (some ⟨b, 0, none⟩) 5 cap] w (Picked w s five) :=
  pick_n w s b cap 5 five h rfl hb (by decide) (by decide) (fun j hj => (cell_of_row w b j _ _ _ hk).trans (match j, hj with
    | 0, _ => rfl
    | 1, _ => rfl
    | 2, _ => rfl
    | 3, _ => rfl
    | 4, _ => rfl)) (by obtain ⟨hlt, _⟩ := Array.getElem?_eq_some_iff.1 hk; exact hlt)
def four : List Int := [0, 1, 1000000, 1000001]
theorem pick_four (w : World) (s b cap : Nat) (h : Src w s) (hb : ¬ b = s) (hk : w.heap[b]? = some (.cells #[.int .i64 0, .int .i64 1, .int .i64 1000000, .int .i64 1000001] 2 (0, 0))) :
    Calls Tryd.prog 50 #[.pointer (some ⟨s, 0, none⟩), .slice (some ⟨b, 0, none⟩) 4 cap] w (Picked w s four) :=
  pick_n w s b cap 4 four h rfl hb (by decide) (by decide) (fun j hj => (cell_of_row w b j _ _ _ hk).trans (match j, hj with
    | 0, _ => rfl
    | 1, _ => rfl
    | 2, _ => rfl
    | 3, _ => rfl)) (by obtain ⟨hlt, _⟩ := Array.getElem?_eq_some_iff.1 hk; exact hlt)
end Go.Proofs.YtcaekheghjnipabDoor
