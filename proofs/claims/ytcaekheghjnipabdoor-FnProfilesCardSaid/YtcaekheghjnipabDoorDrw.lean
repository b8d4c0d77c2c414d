/- Contracts of the model's draws of two intervals out of a code. Contracts of the model's draws of fractions: of one, of two, of numbers that one is made of, of one and a factor. The draw of two numbers out of a code, and how long a code is. -/
import Derived.Test.YtcaekheghjnipabDoorSDraw
import Derived.Test.YtcaekheghjnipabDoorRat2
import Derived.Deep.RegionWith
import Derived.RegionTactic
import Derived.Test.YtcaekheghjnipabDoorFrom
import Derived.Test.YtcaekheghjnipabDoorCopy
namespace Go.Proofs.YtcaekheghjnipabDoor
open Go.ChangeShapes Go.WideShapes Go.ChangeAt Go.RowKit
set_option linter.unusedVariables false
/-- what a draw of two intervals out of a code leaves -/
def TwoIv (w : World) (e : Ending) (w' : World) : Prop :=
  ∃ x y u v : Int, e = .returned (.tuple #[.agg #[.int .i64 x, .int .i64 y], .agg #[.int .i64 u, .int .i64 v]]) ∧ Below w.heap.size w w'
/-- the source, two results' blocks and the old blocks, in a later world of a draw -/
def Ctx2 (w wq : World) (s : Nat) : Prop := Src wq s ∧ (Rzz wq w.heap.size ∧ Rzz wq (w.heap.size + 1)) ∧ Below w.heap.size w wq ∧ w.heap.size + 1 < s
theorem Ctx2.alloc {w wq : World} {s : Nat} (h : Ctx2 w wq s) (o : Obj) : Ctx2 w (wq.alloc o) s :=
  ⟨h.1.alloc o, ⟨kz h.2.1.1 ((Below.refl _ _).alloc (Nat.le_refl _) o), kz h.2.1.2 ((Below.refl _ _).alloc (Nat.le_refl _) o)⟩, h.2.2.1.alloc h.2.2.1.size o, h.2.2.2⟩
theorem Ctx2.next {w wq wr : World} {s : Nat} (h : Ctx2 w wq s) (hs : Src wr s) (hg : wq.grownBy wr (some s)) : Ctx2 w wr s :=
  ⟨hs, ⟨h.2.1.1.keep2 hg (by have := h.2.2.2; omega), h.2.1.2.keep2 hg (by have := h.2.2.2; omega)⟩, below_src h.2.2.1 hg (by have := h.2.2.2; omega) (Nat.le_refl _), h.2.2.2⟩
/-- the start: the results' blocks are made, then the source -/
theorem ctx2_start {w w1 : World} {s : Nat} (hs : ((w.alloc (.cells #[.int .i64 0, .int .i64 0] 67)).alloc (.cells #[.int .i64 0, .int .i64 0] 67)).heap.size ≤ s) (hsrc : Src w1 s)
    (hb : Below ((w.alloc (.cells #[.int .i64 0, .int .i64 0] 67)).alloc (.cells #[.int .i64 0, .int .i64 0] 67)).heap.size ((w.alloc (.cells #[.int .i64 0, .int .i64 0] 67)).alloc (.cells #[.int .i64 0, .int .i64 0] 67)) w1) : Ctx2 w w1 s :=
  ⟨hsrc, ⟨kz ⟨⟨by simp [go_sem], by simp [go_sem]⟩, by simp [go_sem], by simp [go_sem]⟩ hb, kz ⟨⟨by simp [go_sem], by simp [go_sem]⟩, by simp [go_sem], by simp [go_sem]⟩ hb⟩, bel_end (below_refl2 _ _ _) hb, by simp at hs; omega⟩
theorem ctx2_end {w wq : World} {s : Nat} {a b c d : Value} (h : Ctx2 w wq s) : Below w.heap.size w ((((wq.setCell ⟨w.heap.size, 0, none⟩ a).setCell ⟨w.heap.size, 1, none⟩ b).setCell ⟨w.heap.size + 1, 0, none⟩ c).setCell ⟨w.heap.size + 1, 1, none⟩ d) :=
  (((h.2.2.1.setCell (Nat.le_refl _) _).setCell (Nat.le_refl _) _).setCell (Nat.le_succ _) _).setCell (Nat.le_succ _) _
def three : List Int := [-1000001, -1000000, 0]
theorem pick_three (w : World) (s b cap : Nat) (h : Src w s) (hb : ¬ b = s) (hk : w.heap[b]? = some (.cells #[.int .i64 (-1000001), .int .i64 (-1000000), .int .i64 0] 2 (0, 0))) :
    Calls Tryd.prog 50 #[.pointer (some ⟨s, 0, none⟩), .slice (some ⟨b, 0, none⟩) 3 cap] w (Picked w s three) :=
  pick_n w s b cap 3 three h rfl hb (by decide) (by decide) (fun j hj => (cell_of_row w b j _ _ _ hk).trans (match j, hj with
    | 0, _ => rfl
    | 1, _ => rfl
    | 2, _ => rfl)) (by obtain ⟨hlt, _⟩ := Array.getElem?_eq_some_iff.1 hk; exact hlt)
def pair : List Int := [1000000, 1000001]
theorem pick_pair (w : World) (s b cap : Nat) (h : Src w s) (hb : ¬ b = s) (hk : w.heap[b]? = some (.cells #[.int .i64 1000000, .int .i64 1000001] 2 (0, 0))) :
    Calls Tryd.prog 50 #[.pointer (some ⟨s, 0, none⟩), .slice (some ⟨b, 0, none⟩) 2 cap] w (Picked w s pair) :=
  pick_n w s b cap 2 pair h rfl hb (by decide) (by decide) (fun j hj => (cell_of_row w b j _ _ _ hk).trans (match j, hj with
    | 0, _ => rfl
    | 1, _ => rfl)) (by obtain ⟨hlt, _⟩ := Array.getElem?_eq_some_iff.1 hk; exact hlt)
end Go.Proofs.YtcaekheghjnipabDoor
namespace Go.Proofs.YtcaekheghjnipabDoor
open Go.ChangeShapes Go.WideShapes Go.ChangeAt Go.RowKit
set_option linter.unusedVariables false
theorem Src.bel {w w' : World} {s : Nat} (h : Src w s) (hb : Below w.heap.size w w') : Src w' s := by
  have hlt := h.lt
  obtain ⟨a, cap, zs, k, seed, hblk, hc, rest⟩ := h
  exact ⟨a, cap, zs, k, seed, (hb.block s hlt).trans hblk, hc.below (hb.mono (Nat.le_of_lt hlt)) (Nat.le_refl _), rest⟩
theorem grown_bel {W wr w' : World} {s : Nat} (h : W.grownBy wr (some s)) (hb : Below wr.heap.size wr w') : W.grownBy w' (some s) :=
  ⟨hb.os.trans h.os, hb.tape.trans h.tape, hb.output.trans h.output, Nat.le_trans h.size hb.size, fun k hk hne => (hb.block k (Nat.lt_of_lt_of_le hk h.size)).trans (h.block k hk hne)⟩
/-- one number is picked -/
def Some1 (w : World) (s : Nat) (e : Ending) (w' : World) : Prop := ∃ x : Int, e = .returned (.int .i64 x) ∧ Src w' s ∧ w.grownBy w' (some s)
theorem pick_some (w : World) (s b cap n : Nat) (zs : List Int) (h : Src w s) (hn : zs.length = n) (hb : ¬ b = s) (hl : 1 < n) (hl2 : n ≤ 1000) (hc : ∀ j, j < n → w.cell? ⟨b, j, none⟩ = some (.int .i64 (zs.getD j 0))) (hlt : b < w.heap.size) :
    Calls Tryd.prog 50 #[.pointer (some ⟨s, 0, none⟩), .slice (some ⟨b, 0, none⟩) n cap] w (Some1 w s) :=
  (pick_n w s b cap n zs h hn hb hl hl2 hc hlt).mono fun e w' ⟨j, _, he, hs, hg⟩ => ⟨_, he, hs, hg⟩
theorem pick4 (w : World) (s b cap : Nat) (z0 z1 z2 z3 : Int) (h : Src w s) (hb : ¬ b = s) (hk : w.heap[b]? = some (.cells #[.int .i64 z0, .int .i64 z1, .int .i64 z2, .int .i64 z3] 2 (0, 0))) :
    Calls Tryd.prog 50 #[.pointer (some ⟨s, 0, none⟩), .slice (some ⟨b, 0, none⟩) 4 cap] w (Some1 w s) :=
  pick_some w s b cap 4 [z0, z1, z2, z3] h rfl hb (by decide) (by decide) (fun j hj => (cell_of_row w b j _ _ _ hk).trans (match j, hj with
    | 0, _ => rfl
    | 1, _ => rfl
    | 2, _ => rfl
    | 3, _ => rfl)) (by obtain ⟨hlt, _⟩ := Array.getElem?_eq_some_iff.1 hk; exact hlt)
theorem pick3 (w : World) (s b cap : Nat) (z0 z1 z2 : Int) (h : Src w s) (hb : ¬ b = s) (hk : w.heap[b]? = some (.cells #[.int .i64 z0, .int .i64 z1, .int .i64 z2] 2 (0, 0))) :
    Calls Tryd.prog 50 #[.pointer (some ⟨s, 0, none⟩), .slice (some ⟨b, 0, none⟩) 3 cap] w (Some1 w s) :=
  pick_some w s b cap 3 [z0, z1, z2] h rfl hb (by decide) (by decide) (fun j hj => (cell_of_row w b j _ _ _ hk).trans (match j, hj with
    | 0, _ => rfl
    | 1, _ => rfl
    | 2, _ => rfl)) (by obtain ⟨hlt, _⟩ := Array.getElem?_eq_some_iff.1 hk; exact hlt)
theorem pick5 (w : World) (s b cap : Nat) (z0 z1 z2 z3 z4 : Int) (h : Src w s) (hb : ¬ b = s) (hk : w.heap[b]? = some (.cells #[.int .i64 z0, .int .i64 z1, .int .i64 z2, .int .i64 z3, .int .i64 z4] 2 (0, 0))) :
    Calls Tryd.prog 50 #[.pointer (some ⟨s, 0, none⟩), .slice (some ⟨b, 0, none⟩) 5 cap] w (Some1 w s) :=
  pick_some w s b cap 5 [z0, z1, z2, z3, z4] h rfl hb (by decide) (by decide) (fun j hj => (cell_of_row w b j _ _ _ hk).trans (match j, hj with
    | 0, _ => rfl
    | 1, _ => rfl
    | 2, _ => rfl
    | 3, _ => rfl
    | 4, _ => rfl)) (by obtain ⟨hlt, _⟩ := Array.getElem?_eq_some_iff.1 hk; exact hlt)
/-- what a draw of a fraction leaves -/
def RatDrawn (w : World) (s : Nat) (e : Ending) (w' : World) : Prop := ∃ x y : Int, e = .returned (.agg #[.int .i64 x, .int .i64 y]) ∧ Src w' s ∧ w.grownBy w' (some s)
def Rat2Drawn (w : World) (s : Nat) (e : Ending) (w' : World) : Prop := ∃ x y u v : Int, e = .returned (.tuple #[.agg #[.int .i64 x, .int .i64 y], .agg #[.int .i64 u, .int .i64 v]]) ∧ Src w' s ∧ w.grownBy w' (some s)
theorem Rzz.al {w : World} {g : Nat} (h : Rzz w g) (o : Obj) : Rzz (w.alloc o) g := kz h ((Below.refl _ _).alloc (Nat.le_refl _) o)
theorem two_set {w w' : World} {s g : Nat} {a b : Value} (h : w.grownBy w' (some s)) (hg : w.heap.size ≤ g) : w.grownBy ((w'.setCell ⟨g, 0, none⟩ a).setCell ⟨g, 1, none⟩ b) (some s) := grown_set_new (grown_set_new h hg _) hg _
theorem src_set {w : World} {s g : Nat} {a b : Value} (h : Src w s) (hg : s < g) : Src ((w.setCell ⟨g, 0, none⟩ a).setCell ⟨g, 1, none⟩ b) s := (h.set_far hg _).set_far hg _

end Go.Proofs.YtcaekheghjnipabDoor
namespace Go.Proofs.YtcaekheghjnipabDoor
open Go.ChangeShapes Go.WideShapes Go.ChangeAt Go.RowKit Num
set_option linter.unusedVariables false
theorem Code8.of_row {w : World} {a : Option Addr} {len cap : Nat} {zs : List Int} (h : IsRow .u8 w a len cap zs) : (zs.take len).length = len ∧ Code8 w w.heap.size a (zs.take len) := by
  obtain ⟨h1, h2, h3, h4⟩ := Ints.of_row h
  refine ⟨h2, h3, by omega, fun j hj => ?_⟩
  have hm : (zs.take len).getD j 0 ∈ zs.take len := by
    rw [List.getD_eq_getElem?_getD, List.getElem?_eq_getElem hj]; exact List.getElem_mem hj
  exact bounds_u8 (h4 _ hm)

theorem big_any (w : World) (a : Option Addr) (n c : Nat) :
    Calls Tryd.prog 10 #[.slice a n c] w fun e w' => e = .returned (.bool (decide (4096 < (n : Int)))) ∧ w = w' := by
  go_enter Tryd.func10, Tryd.ntmps10
  go_wp2
  go_ret
  exact ⟨rfl, rfl⟩

/-- what a draw of two numbers leaves -/
def TwoDrawn (w : World) (e : Ending) (w' : World) : Prop :=
  ∃ a b : Int, e = .returned (.tuple #[.int .i64 a, .int .i64 b]) ∧ (Lit.int .i64 a).wf = true ∧ (Lit.int .i64 b).wf = true ∧ Below w.heap.size w w'

end Go.Proofs.YtcaekheghjnipabDoor
