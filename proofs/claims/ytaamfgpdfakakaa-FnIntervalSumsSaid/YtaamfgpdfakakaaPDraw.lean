/- Contracts of the model's draws of two intervals out of a code. -/
import Derived.Test.YtaamfgpdfakakaaSDraw
namespace Go.Proofs.Ytaamfgpdfakakaa
open Go.ChangeShapes Go.WideShapes Go.ChangeAt Go.RowKit
set_option linter.unusedVariables false
/-- what a draw of two intervals out of a code leaves -/
def TwoIv (w : World) (e : Ending) (w' : World) : Prop :=
  ∃ x y u v : Int, e = .returned (.tuple #[.agg #[.int .i64 x, .int .i64 y], .agg #[.int .i64 u, .int .i64 v]]) ∧ Below w.heap.size w w'
/-- the source, two results' blocks and the old blocks, in a later world of a draw -/
def Ctx2 (w wq : World) (s : Nat) : Prop := Src wq s ∧ (Rzz wq w.heap.size ∧ Rzz wq (w.heap.size + 1)) ∧ Below w.heap.size w wq ∧ w.heap.size + 1 < s
theorem Ctx2.alloc {w wq : World} {s : Nat} (h : Ctx2 w wq s) (o : Obj) : Ctx2 w (wq.alloc o) s :=
  ⟨h.1.alloc o, ⟨kz h.2.1.1 ((Below.refl _ _).alloc (Nat.le_refl _) o), kz h.2.1.2 ((Below.refl _ _).alloc (Nat.le_refl _) o)⟩, h.2.2.1.alloc h.2.2.1.size o, h.2.2.2⟩
theorem Ctx2.next {w wq wr : World} {s : Nat} (h : Ctx2 w wq s) (hs : Src wr s) (hg : wq.grownBy wr (some s)) : Ctx2 w wr s :=
  ⟨hs, ⟨h.2.1.1.keep2 hg (by have := h.2.2.2; omega), h.2.1.2.keep2 hg (by have := h.2.2.2; omega)⟩, below_src h.2.2.1 hg (by have := h.2.2.2; omega) (Nat.le_refl _), h.2.2.2⟩
/-- the start: the results' blocks are made, then the source -/
theorem ctx2_start {w w1 : World} {s : Nat} (hs : ((w.alloc (.cells #[.int .i64 0, .int .i64 0] 42)).alloc (.cells #[.int .i64 0, .int .i64 0] 42)).heap.size ≤ s) (hsrc : Src w1 s)
    (hb : Below ((w.alloc (.cells #[.int .i64 0, .int .i64 0] 42)).alloc (.cells #[.int .i64 0, .int .i64 0] 42)).heap.size ((w.alloc (.cells #[.int .i64 0, .int .i64 0] 42)).alloc (.cells #[.int .i64 0, .int .i64 0] 42)) w1) : Ctx2 w w1 s :=
  ⟨hsrc, ⟨kz ⟨⟨by simp [go_sem], by simp [go_sem]⟩, by simp [go_sem], by simp [go_sem]⟩ hb, kz ⟨⟨by simp [go_sem], by simp [go_sem]⟩, by simp [go_sem], by simp [go_sem]⟩ hb⟩, bel_end (below_refl2 _ _ _) hb, by simp at hs; omega⟩
theorem ctx2_end {w wq : World} {s : Nat} {a b c d : Value} (h : Ctx2 w wq s) : Below w.heap.size w ((((wq.setCell ⟨w.heap.size, 0, none⟩ a).setCell ⟨w.heap.size, 1, none⟩ b).setCell ⟨w.heap.size + 1, 0, none⟩ c).setCell ⟨w.heap.size + 1, 1, none⟩ d) :=
  (((h.2.2.1.setCell (Nat.le_refl _) _).setCell (Nat.le_refl _) _).setCell (Nat.le_succ _) _).setCell (Nat.le_succ _) _
set_option maxRecDepth 100000 in
set_option maxHeartbeats 2000000 in
theorem dqi_any (w : World) (a : Option Addr) (cap : Nat) (zs : List Int) (h : Code8 w w.heap.size a zs) :
    Calls Try.prog 45 #[.slice a zs.length cap] w (TwoIv w) := by
  have H := Lib.hid h
  clear h
  go_enter Try.func45, Try.ntmps45
  go_wp2_with fail
  refine (from_any _ _ _ zs ((H.out.below (below_refl2 _ _ _) (Nat.le_refl _)).more (by simp; omega))).mono ?_
  rintro e w1 ⟨s, rfl, hs, hsrc, hb⟩
  have C1 := Lib.hid (ctx2_start hs hsrc hb)
  clear hs hsrc hb
  go_wp2_with fail
  refine (dtw_any _ _ C1.out.1).mono ?_
  rintro e wz ⟨x, y, u, v, rfl, -, -, hsrc, hg⟩
  have CZ := Lib.hid (C1.out.next hsrc hg)
  obtain ⟨-, ⟨⟨⟨r0, r1⟩, t0, t1⟩, ⟨⟨p0, p1⟩, q0, q1⟩⟩, -, -⟩ := C1.out.next hsrc hg
  clear hsrc hg
  go_wp2
  exact bodyPost_ret (v := .tuple #[.agg #[.int .i64 x, .int .i64 y], .agg #[.int .i64 u, .int .i64 v]]) (by simp [results, Try.results45, go_sem, r0, r1, p0, p1]) rfl ⟨_, _, _, _, rfl, ctx2_end CZ.out⟩
def three : List Int := [-1000001, -1000000, 0]
theorem pick_three (w : World) (s b cap : Nat) (h : Src w s) (hb : ¬ b = s) (hk : w.heap[b]? = some (.cells #[.int .i64 (-1000001), .int .i64 (-1000000), .int .i64 0] 2 (0, 0))) :
    Calls Try.prog 89 #[.pointer (some ⟨s, 0, none⟩), .slice (some ⟨b, 0, none⟩) 3 cap] w (Picked w s three) :=
  pick_n w s b cap 3 three h rfl hb (by decide) (by decide) (fun j hj => (cell_of_row w b j _ _ _ hk).trans (match j, hj with
    | 0, _ => rfl
    | 1, _ => rfl
    | 2, _ => rfl)) (by obtain ⟨hlt, _⟩ := Array.getElem?_eq_some_iff.1 hk; exact hlt)
def pair : List Int := [1000000, 1000001]
theorem pick_pair (w : World) (s b cap : Nat) (h : Src w s) (hb : ¬ b = s) (hk : w.heap[b]? = some (.cells #[.int .i64 1000000, .int .i64 1000001] 2 (0, 0))) :
    Calls Try.prog 89 #[.pointer (some ⟨s, 0, none⟩), .slice (some ⟨b, 0, none⟩) 2 cap] w (Picked w s pair) :=
  pick_n w s b cap 2 pair h rfl hb (by decide) (by decide) (fun j hj => (cell_of_row w b j _ _ _ hk).trans (match j, hj with
    | 0, _ => rfl
    | 1, _ => rfl)) (by obtain ⟨hlt, _⟩ := Array.getElem?_eq_some_iff.1 hk; exact hlt)
set_option maxRecDepth 100000 in
set_option maxHeartbeats 2000000 in
theorem dpi_any (w : World) (a : Option Addr) (cap : Nat) (zs : List Int) (h : Code8 w w.heap.size a zs) :
    Calls Try.prog 42 #[.slice a zs.length cap] w (TwoIv w) := by
  have H := Lib.hid h
  clear h
  go_enter Try.func42, Try.ntmps42
  go_wp2_with fail
  refine (from_any _ _ _ zs ((H.out.below (below_refl2 _ _ _) (Nat.le_refl _)).more (by simp; omega))).mono ?_
  rintro e w1 ⟨s, rfl, hs, hsrc, hb⟩
  have C1 := Lib.hid (ctx2_start hs hsrc hb)
  clear hs hsrc hb
  go_wp2_with fail
  refine (nxt_any _ _ _ C1.out.1).mono ?_
  rintro e w2 ⟨n, rfl, hn0, hn1, -, hsrc, hg⟩
  have C2 := Lib.hid (C1.out.next hsrc hg)
  clear hsrc hg hn1
  by_cases hn : n = 0
  · subst hn
    have hlt := C2.out.1.lt
    go_wp2_with fail
    refine (pick_three _ _ _ _ (C2.out.1.alloc _) (by omega) (heap_alloc_new _ _)).mono ?_
    rintro e w3 ⟨q, hq0, rfl, hsrc, hg⟩
    have C3 := Lib.hid ((C2.out.alloc _).next hsrc hg)
    have hlt3 := C3.out.1.lt
    clear hsrc hg
    go_wp2_with fail
    refine (pick_pair _ _ _ _ (C3.out.1.alloc _) (by omega) (heap_alloc_new _ _)).mono ?_
    rintro e w4 ⟨r, hr0, rfl, hsrc, hg⟩
    have C4 := Lib.hid ((C3.out.alloc _).next hsrc hg)
    obtain ⟨-, ⟨⟨⟨r0, r1⟩, t0, t1⟩, ⟨⟨p0, p1⟩, q0, q1⟩⟩, -, -⟩ := (C3.out.alloc _).next hsrc hg
    clear hsrc hg
    go_wp2
    exact bodyPost_ret (v := .tuple #[.agg #[.int .i64 three[q], .int .i64 pair[r]], .agg #[.int .i64 (-1000000), .int .i64 1000000]]) (by simp [results, Try.results42, go_sem, r0, r1, p0, p1]) rfl ⟨_, _, _, _, rfl, ctx2_end C4.out⟩
  · have hnf : (n == 0) = false := by simpa using hn
    go_wp2_with fail
    refine (dtw_any _ _ C2.out.1).mono ?_
    rintro e wz ⟨x, y, u, v, rfl, -, -, hsrc, hg⟩
    have CZ := Lib.hid (C2.out.next hsrc hg)
    obtain ⟨-, ⟨⟨⟨r0, r1⟩, t0, t1⟩, ⟨⟨p0, p1⟩, q0, q1⟩⟩, -, -⟩ := C2.out.next hsrc hg
    clear hsrc hg
    go_wp2
    exact bodyPost_ret (v := .tuple #[.agg #[.int .i64 x, .int .i64 y], .agg #[.int .i64 u, .int .i64 v]]) (by simp [results, Try.results42, go_sem, r0, r1, p0, p1]) rfl ⟨_, _, _, _, rfl, ctx2_end CZ.out⟩
end Go.Proofs.Ytaamfgpdfakakaa
