/- Contracts of the model's draws of fractions out of a code. -/
import Derived.Test.YtkbgbhbnkffneaaRDraw
import Derived.Test.YtkbgbhbnkffneaaQLaw
namespace Go.Proofs.Ytkbgbhbnkffneaa
open Go.ChangeShapes Go.WideShapes Go.ChangeAt Go.RowKit
set_option linter.unusedVariables false
def TwoRt (w : World) (e : Ending) (w' : World) : Prop :=
  ∃ x y u v : Int, e = .returned (.tuple #[.agg #[.int .i64 x, .int .i64 y], .agg #[.int .i64 u, .int .i64 v]]) ∧ Below w.heap.size w w'
def OneRt (w : World) (e : Ending) (w' : World) : Prop := ∃ x y : Int, e = .returned (.agg #[.int .i64 x, .int .i64 y]) ∧ Below w.heap.size w w'
def RtInt (w : World) (e : Ending) (w' : World) : Prop := ∃ x y k : Int, e = .returned (.tuple #[.agg #[.int .i64 x, .int .i64 y], .int .i64 k]) ∧ Below w.heap.size w w'
/-- the start: the results' blocks are made, then the source -/
theorem ctx2_start2 {w w1 : World} {s : Nat} {t : TypeId} (hs : ((w.alloc (.cells #[.int .i64 0, .int .i64 0] t)).alloc (.cells #[.int .i64 0, .int .i64 0] t)).heap.size ≤ s) (hsrc : Src w1 s)
    (hb : Below ((w.alloc (.cells #[.int .i64 0, .int .i64 0] t)).alloc (.cells #[.int .i64 0, .int .i64 0] t)).heap.size ((w.alloc (.cells #[.int .i64 0, .int .i64 0] t)).alloc (.cells #[.int .i64 0, .int .i64 0] t)) w1) : Ctx2 w w1 s :=
  ⟨hsrc, ⟨kz ⟨⟨by simp [go_sem], by simp [go_sem]⟩, by simp [go_sem], by simp [go_sem]⟩ hb, kz ⟨⟨by simp [go_sem], by simp [go_sem]⟩, by simp [go_sem], by simp [go_sem]⟩ hb⟩, bel_end (below_refl2 _ _ _) hb, by simp at hs; omega⟩
theorem ctx_start {w w1 : World} {s : Nat} {t : TypeId} (hs : (w.alloc (.cells #[.int .i64 0, .int .i64 0] t)).heap.size ≤ s) (hsrc : Src w1 s)
    (hb : Below (w.alloc (.cells #[.int .i64 0, .int .i64 0] t)).heap.size (w.alloc (.cells #[.int .i64 0, .int .i64 0] t)) w1) : Ctx w w1 s :=
  ⟨hsrc, kz ⟨⟨by simp [go_sem], by simp [go_sem]⟩, by simp [go_sem], by simp [go_sem]⟩ hb, bel_end ((Below.refl _ _).alloc (Nat.le_refl _) _) hb, by simp at hs; omega⟩
theorem ctx_end {w wq : World} {s : Nat} {a b : Value} (h : Ctx w wq s) : Below w.heap.size w ((wq.setCell ⟨w.heap.size, 0, none⟩ a).setCell ⟨w.heap.size, 1, none⟩ b) :=
  (h.2.2.1.setCell (Nat.le_refl _) _).setCell (Nat.le_refl _) _

set_option maxRecDepth 100000 in
set_option maxHeartbeats 2000000 in
theorem dar_any (w : World) (a : Option Addr) (cap : Nat) (zs : List Int) (h : Code8 w w.heap.size a zs) :
    Calls Try.prog 41 #[.slice a zs.length cap] w (TwoRt w) := by
  have H := Lib.hid h
  clear h
  go_enter Try.func41, Try.ntmps41
  go_wp2_with fail
  refine (from_any _ _ _ zs ((H.out.below (below_refl2 _ _ _) (Nat.le_refl _)).more (by simp; omega))).mono ?_
  rintro e w1 ⟨s, rfl, hs, hsrc, hb⟩
  have C1 := Lib.hid (ctx2_start2 hs hsrc hb)
  clear hs hsrc hb
  go_wp2_with fail
  refine (drt_any _ _ C1.out.1).mono ?_
  rintro e wz ⟨x, y, u, v, rfl, hsrc, hg⟩
  have CZ := Lib.hid (C1.out.next hsrc hg)
  obtain ⟨-, ⟨⟨⟨r0, r1⟩, t0, t1⟩, ⟨⟨p0, p1⟩, q0, q1⟩⟩, -, -⟩ := C1.out.next hsrc hg
  clear hsrc hg
  go_wp2
  exact bodyPost_ret (v := .tuple #[.agg #[.int .i64 x, .int .i64 y], .agg #[.int .i64 u, .int .i64 v]]) (by simp [results, Try.results41, go_sem, r0, r1, p0, p1]) rfl ⟨_, _, _, _, rfl, ctx2_end CZ.out⟩

set_option maxRecDepth 100000 in
set_option maxHeartbeats 2000000 in
theorem dmr_any (w : World) (a : Option Addr) (cap : Nat) (zs : List Int) (h : Code8 w w.heap.size a zs) :
    Calls Try.prog 44 #[.slice a zs.length cap] w (TwoRt w) := by
  have H := Lib.hid h
  clear h
  go_enter Try.func44, Try.ntmps44
  go_wp2_with fail
  refine (from_any _ _ _ zs ((H.out.below (below_refl2 _ _ _) (Nat.le_refl _)).more (by simp; omega))).mono ?_
  rintro e w1 ⟨s, rfl, hs, hsrc, hb⟩
  have C1 := Lib.hid (ctx2_start2 hs hsrc hb)
  clear hs hsrc hb
  go_wp2_with fail
  refine (drt_any _ _ C1.out.1).mono ?_
  rintro e wz ⟨x, y, u, v, rfl, hsrc, hg⟩
  have CZ := Lib.hid (C1.out.next hsrc hg)
  obtain ⟨-, ⟨⟨⟨r0, r1⟩, t0, t1⟩, ⟨⟨p0, p1⟩, q0, q1⟩⟩, -, -⟩ := C1.out.next hsrc hg
  clear hsrc hg
  go_wp2
  exact bodyPost_ret (v := .tuple #[.agg #[.int .i64 x, .int .i64 y], .agg #[.int .i64 u, .int .i64 v]]) (by simp [results, Try.results44, go_sem, r0, r1, p0, p1]) rfl ⟨_, _, _, _, rfl, ctx2_end CZ.out⟩

set_option maxRecDepth 100000 in
set_option maxHeartbeats 2000000 in
theorem der_any (w : World) (a : Option Addr) (cap : Nat) (zs : List Int) (h : Code8 w w.heap.size a zs) :
    Calls Try.prog 46 #[.slice a zs.length cap] w (TwoRt w) := by
  have H := Lib.hid h
  clear h
  go_enter Try.func46, Try.ntmps46
  go_wp2_with fail
  refine (from_any _ _ _ zs ((H.out.below (below_refl2 _ _ _) (Nat.le_refl _)).more (by simp; omega))).mono ?_
  rintro e w1 ⟨s, rfl, hs, hsrc, hb⟩
  have C1 := Lib.hid (ctx2_start2 hs hsrc hb)
  clear hs hsrc hb
  go_wp2_with fail
  refine (drt_any _ _ C1.out.1).mono ?_
  rintro e wz ⟨x, y, u, v, rfl, hsrc, hg⟩
  have CZ := Lib.hid (C1.out.next hsrc hg)
  obtain ⟨-, ⟨⟨⟨r0, r1⟩, t0, t1⟩, ⟨⟨p0, p1⟩, q0, q1⟩⟩, -, -⟩ := C1.out.next hsrc hg
  clear hsrc hg
  go_wp2
  exact bodyPost_ret (v := .tuple #[.agg #[.int .i64 x, .int .i64 y], .agg #[.int .i64 u, .int .i64 v]]) (by simp [results, Try.results46, go_sem, r0, r1, p0, p1]) rfl ⟨_, _, _, _, rfl, ctx2_end CZ.out⟩

set_option maxRecDepth 100000 in
set_option maxHeartbeats 2000000 in
theorem div1_any (w : World) (a : Option Addr) (cap : Nat) (zs : List Int) (h : Code8 w w.heap.size a zs) :
    Calls Try.prog 34 #[.slice a zs.length cap] w (OneRt w) := by
  have H := Lib.hid h
  clear h
  go_enter Try.func34, Try.ntmps34
  go_wp2_with fail
  refine (from_any _ _ _ zs ((H.out.below ((Below.refl _ _).alloc (Nat.le_refl _) _) (Nat.le_refl _)).more (by simp))).mono ?_
  rintro e w1 ⟨s, rfl, hs, hsrc, hb⟩
  have C1 := Lib.hid (ctx_start hs hsrc hb)
  clear hs hsrc hb
  go_wp2_with fail
  refine (drr_any _ _ C1.out.1).mono ?_
  rintro e wz ⟨x, y, rfl, hsrc, hg⟩
  have CZ := Lib.hid (C1.out.next hsrc hg)
  obtain ⟨-, ⟨⟨r0, r1⟩, t0, t1⟩, -, -⟩ := C1.out.next hsrc hg
  clear hsrc hg
  go_wp2
  exact bodyPost_ret (v := .agg #[.int .i64 x, .int .i64 y]) (by simp [results, Try.results34, go_sem, r0, r1]) rfl ⟨_, _, rfl, ctx_end CZ.out⟩

set_option maxRecDepth 100000 in
set_option maxHeartbeats 4000000 in
theorem drb_any (w : World) (a : Option Addr) (cap : Nat) (zs : List Int) (h : Code8 w w.heap.size a zs) :
    Calls Try.prog 49 #[.slice a zs.length cap] w (RtInt w) := by
  have H := Lib.hid h
  clear h
  go_enter Try.func49, Try.ntmps49
  go_wp2_with fail
  refine (from_any _ _ _ zs ((H.out.below ((Below.refl _ _).alloc (Nat.le_refl _) _) (Nat.le_refl _)).more (by simp))).mono ?_
  rintro e w1 ⟨s, rfl, hs, hsrc, hb⟩
  have C1 := Lib.hid (ctx_start hs hsrc hb)
  clear hs hsrc hb
  go_wp2_with fail
  refine (drr_any _ _ C1.out.1).mono ?_
  rintro e w2 ⟨x, y, rfl, hsrc, hg⟩
  have C2 := Lib.hid (C1.out.next hsrc hg)
  clear hsrc hg
  go_wp2_with fail
  refine (nxt_any _ _ _ C2.out.1).mono ?_
  rintro e w3 ⟨m, rfl, hm0, -, -, hsrc, hg⟩
  have C3 := Lib.hid (C2.out.next hsrc hg)
  clear hsrc hg
  go_wp2_with fail
  refine (nxt_any _ _ _ C3.out.1).mono ?_
  rintro e w4 ⟨n, rfl, hn0, -, -, hsrc, hg⟩
  have C4 := Lib.hid (C3.out.next hsrc hg)
  have hl4 := C4.out.1.lt
  clear hsrc hg
  go_wp2_with fail
  refine (pick3 _ _ _ _ _ _ _ (C4.out.1.alloc _) (by omega) (heap_alloc_new _ _)).mono ?_
  rintro e w5 ⟨p, rfl, hsrc, hg⟩
  have C5 := Lib.hid ((C4.out.alloc _).next hsrc hg)
  have hl5 := C5.out.1.lt
  clear hsrc hg
  go_wp2_with fail
  refine (pick5 _ _ _ _ _ _ _ _ _ (C5.out.1.alloc _) (by omega) (heap_alloc_new _ _)).mono ?_
  rintro e w6 ⟨k, rfl, hsrc, hg⟩
  have C6 := Lib.hid ((C5.out.alloc _).next hsrc hg)
  obtain ⟨-, ⟨⟨r0, r1⟩, t0, t1⟩, -, -⟩ := (C5.out.alloc _).next hsrc hg
  clear hsrc hg
  go_wp2
  exact bodyPost_ret (v := .tuple #[.agg #[.int .i64 x, .int .i64 y], .int .i64 k]) (by simp [results, Try.results49, go_sem, r0, r1]) rfl ⟨_, _, _, rfl, ctx_end C6.out⟩

theorem dmk_any (w : World) (a : Option Addr) (cap : Nat) (zs : List Int) (h : Code8 w w.heap.size a zs) :
    Calls Try.prog 31 #[.slice a zs.length cap] w (TwoDrawn w) := by
  have H := Lib.hid h
  clear h
  go_enter Try.func31, Try.ntmps31
  go_wp2_with fail
  refine (from_any _ _ _ zs H.out).mono ?_
  rintro e w1 ⟨s, rfl, hs, hsrc, hb⟩
  have S1 := Lib.hid hsrc
  have B1 := Lib.hid hb
  clear hsrc hb
  go_wp2_with fail
  refine (nxt_any _ _ _ S1.out).mono ?_
  rintro e w3 ⟨y, rfl, hy0, hy1, -, hsrc, hg⟩
  have S3 := Lib.hid hsrc
  have B3 := Lib.hid (B1.out.trans (below_of_grown hg hs B1.out.size))
  have hyb := hy1 (by omega)
  clear hsrc hg hy1
  by_cases hy : y = 0
  · subst hy
    go_wp2_with fail
    refine (dv_any _ _ S3.out).mono ?_
    rintro e w4 ⟨u, rfl, wu, hsrc, hg⟩
    have S4 := Lib.hid hsrc
    have B4 := Lib.hid (B3.out.trans (below_of_grown hg hs B3.out.size))
    clear hsrc hg
    go_wp2_with fail
    refine (dv_any _ _ S4.out).mono ?_
    rintro e w5 ⟨v, rfl, wv, hsrc, hg⟩
    have B5 := Lib.hid (B4.out.trans (below_of_grown hg hs B4.out.size))
    clear hsrc hg
    go_wp2
    go_ret2
    exact ⟨u, v, rfl, wu, wv, B5.out⟩
  · have hyf : (y == 0) = false := by simpa using hy
    go_wp2_with fail
    refine (nxt_any _ _ _ S3.out).mono ?_
    rintro e w6 ⟨x, rfl, hx0, hx1, -, hsrc, hg⟩
    have S6 := Lib.hid hsrc
    have B6 := Lib.hid (B3.out.trans (below_of_grown hg hs B3.out.size))
    have hxb := hx1 (by omega)
    clear hsrc hg hx1
    go_wp2_with fail
    refine (nxt_any _ _ _ S6.out).mono ?_
    rintro e w4 ⟨u, rfl, hu0, hu1, -, hsrc, hg⟩
    have S4 := Lib.hid hsrc
    have B4 := Lib.hid (B6.out.trans (below_of_grown hg hs B6.out.size))
    have hub := hu1 (by omega)
    clear hsrc hg hu1
    have pb : ∀ t : Int, -100 ≤ t → t ≤ 100 → -6000 ≤ (1 + x) * t ∧ (1 + x) * t ≤ 6000 := by
      intro t t1 t2
      have h1 := Int.mul_le_mul_of_nonneg_left t1 (show 0 ≤ 1 + x by omega)
      have h2 := Int.mul_le_mul_of_nonneg_left t2 (show 0 ≤ 1 + x by omega)
      omega
    obtain ⟨u1, u2⟩ := pb (u - 50) (by omega) (by omega)
    go_wp2_with fail
    refine (nxt_any _ _ _ S4.out).mono ?_
    rintro e w5 ⟨v, rfl, hv0, hv1, -, hsrc, hg⟩
    have B5 := Lib.hid (B4.out.trans (below_of_grown hg hs B4.out.size))
    have hvb := hv1 (by omega)
    clear hsrc hg hv1
    obtain ⟨v1, v2⟩ := pb (v - 20) (by omega) (by omega)
    clear pb
    go_wp2
    go_ret2
    exact ⟨(1 + x) * (u - 50), (1 + x) * (v - 20), rfl, wf64 (by omega) (by omega), wf64 (by omega) (by omega), B5.out⟩
end Go.Proofs.Ytkbgbhbnkffneaa
