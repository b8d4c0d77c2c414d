/- Contracts of the model's draws of fractions out of a code. -/
import Derived.Test.YtkiadgmolkpgfabDoorRDraw
import Derived.Test.YtkiadgmolkpgfabDoorQLaw
namespace Go.Proofs.YtkiadgmolkpgfabDoor
open Go.ChangeShapes Go.WideShapes Go.ChangeAt Go.RowKit
set_option linter.unusedVariables false
def TwoRt (w : World) (e : Ending) (w' : World) : Prop :=
  ∃ x y u v : Int, e = .returned (.tuple #[.agg #[.int .i64 x, .int .i64 y], .agg #[.int .i64 u, .int .i64 v]]) ∧ Below w.heap.size w w'
def OneRt (w : World) (e : Ending) (w' : World) : Prop := ∃ x y : Int, e = .returned (.agg #[.int .i64 x, .int .i64 y]) ∧ Below w.heap.size w w'
def RtInt (w : World) (e : Ending) (w' : World) : Prop := ∃ x y k : Int, e = .returned (.tuple #[.agg #[.int .i64 x, .int .i64 y], .int .i64 k]) ∧ Below w.heap.size w w'
/-- the start: the results' blocks are made, then the source -/
theorem ctx2_start2 {w w1 : World} {s : Nat} {t : TypeId} (hs : ((w.alloc (.cells #[.int .i64 0, .int .i64 0] t)).alloc (.cells #[.int .i64 0, .int .i64 0] t)).heap.size ≤ s) (hsrc : Src w1 s)
    (hb : Below ((w.alloc (.cells #[.int .i64 0, .int .i64 0] t)).alloc (.cells #[.int .i64 0, .int .i64 0] t)).heap.size ((w.alloc (.cells #[.int .i64 0, .int .i64 0] t)).alloc (.cells #[.int .i64 0, .int .i64 0] t)) w1) : Ctx2 w w1 s :=
  ⟨hsrc, ⟨kz ⟨⟨by simp [go_sem], by simp [go_sem]⟩, by simp [go_sem], by simp [go_sem]⟩ hb, kz ⟨⟨by simp [go_sem], by simp [go_sem]⟩, by simp [go_sem], by simp [go_sem]⟩ hb⟩, bel_end (below_refl2 _ _ _) hb, by simp at hs; omega⟩
theorem ctx_start {w w1 : World} {s : Nat} {t : TypeId} (hs : (w.alloc (.cells #[.int .i64 0, .int .i64 0] t)).heap.size ≤ s) (hsrc : Src w1 s)
    (hb : Below (w.alloc (.cells #[.int .i64 0, .int .i64 0] t)).heap.size (w.alloc (.cells #[.int .i64 0, .int .i64 0] t)) w1) : Ctx w w1 s :=
  ⟨hsrc, kz ⟨⟨by simp [go_sem], by simp [go_sem]⟩, by simp [go_sem], by simp [go_sem]⟩ hb, bel_end ((Below.refl _ _).alloc (Nat.le_refl _) _) hb, by simp at hs; omega⟩
theorem ctx_end {w wq : World} {s : Nat} {a b : Value} (h : Ctx w wq s) : Below w.heap.size w ((wq.setCell ⟨w.heap.size, 0, none⟩ a).setCell ⟨w.heap.size, 1, none⟩ b) :=
  (h.2.2.1.setCell (Nat.le_refl _) _).setCell (Nat.le_refl _) _

set_option maxRecDepth 100000 in
set_option maxHeartbeats 2000000 in
theorem dcr_any (w : World) (a : Option Addr) (cap : Nat) (zs : List Int) (h : Code8 w w.heap.size a zs) :
    Calls Tryd.prog 32 #[.slice a zs.length cap] w (TwoRt w) := by
  have H := Lib.hid h
  clear h
  go_enter Tryd.func32, Tryd.ntmps32
  go_wp2_with fail
  refine (from_any _ _ _ zs ((H.out.below (below_refl2 _ _ _) (Nat.le_refl _)).more (by simp; omega))).mono ?_
  rintro e w1 ⟨s, rfl, hs, hsrc, hb⟩
  have C1 := Lib.hid (ctx2_start2 hs hsrc hb)
  clear hs hsrc hb
  go_wp2_with fail
  refine (drt_any _ _ C1.out.1).mono ?_
  rintro e wz ⟨x, y, u, v, rfl, hsrc, hg⟩
  have CZ := Lib.hid (C1.out.next hsrc hg)
  obtain ⟨-, ⟨⟨⟨r0, r1⟩, t0, t1⟩, ⟨⟨p0, p1⟩, q0, q1⟩⟩, -, -⟩ := C1.out.next hsrc hg
  clear hsrc hg
  go_wp2
  exact bodyPost_ret (v := .tuple #[.agg #[.int .i64 x, .int .i64 y], .agg #[.int .i64 u, .int .i64 v]]) (by simp [results, Tryd.results32, go_sem, r0, r1, p0, p1]) rfl ⟨_, _, _, _, rfl, ctx2_end CZ.out⟩

set_option maxRecDepth 100000 in
set_option maxHeartbeats 2000000 in
theorem drtx_any (w : World) (a : Option Addr) (cap : Nat) (zs : List Int) (h : Code8 w w.heap.size a zs) :
    Calls Tryd.prog 27 #[.slice a zs.length cap] w (OneRt w) := by
  have H := Lib.hid h
  clear h
  go_enter Tryd.func27, Tryd.ntmps27
  go_wp2_with fail
  refine (from_any _ _ _ zs ((H.out.below ((Below.refl _ _).alloc (Nat.le_refl _) _) (Nat.le_refl _)).more (by simp))).mono ?_
  rintro e w1 ⟨s, rfl, hs, hsrc, hb⟩
  have C1 := Lib.hid (ctx_start hs hsrc hb)
  clear hs hsrc hb
  go_wp2_with fail
  refine (drr_any _ _ C1.out.1).mono ?_
  rintro e wz ⟨x, y, rfl, hsrc, hg⟩
  have CZ := Lib.hid (C1.out.next hsrc hg)
  obtain ⟨-, ⟨⟨r0, r1⟩, t0, t1⟩, -, -⟩ := C1.out.next hsrc hg
  clear hsrc hg
  go_wp2
  exact bodyPost_ret (v := .agg #[.int .i64 x, .int .i64 y]) (by simp [results, Tryd.results27, go_sem, r0, r1]) rfl ⟨_, _, rfl, ctx_end CZ.out⟩

end Go.Proofs.YtkiadgmolkpgfabDoor
