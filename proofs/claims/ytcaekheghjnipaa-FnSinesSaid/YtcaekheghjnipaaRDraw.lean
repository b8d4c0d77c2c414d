/- Contracts of the model's draws of fractions: of one, of two, of numbers that one is made of, of one and a factor. -/
import Derived.Test.YtcaekheghjnipaaPDraw
import Derived.Test.YtcaekheghjnipaaRat2
import Derived.Deep.RegionWith
import Derived.RegionTactic
namespace Go.Proofs.Ytcaekheghjnipaa
open Go.ChangeShapes Go.WideShapes Go.ChangeAt Go.RowKit
set_option linter.unusedVariables false
theorem Src.bel {w w' : World} {s : Nat} (h : Src w s) (hb : Below w.heap.size w w') : Src w' s := by
  have hlt := h.lt
  obtain ⟨a, cap, zs, k, seed, hblk, hc, rest⟩ := h
  exact ⟨a, cap, zs, k, seed, (hb.block s hlt).trans hblk, hc.below (hb.mono (Nat.le_of_lt hlt)) (Nat.le_refl _), rest⟩
theorem grown_bel {W wr w' : World} {s : Nat} (h : W.grownBy wr (some s)) (hb : Below wr.heap.size wr w') : W.grownBy w' (some s) :=
  ⟨hb.os.trans h.os, hb.tape.trans h.tape, hb.output.trans h.output, Nat.le_trans h.size hb.size, fun k hk hne => (hb.block k (Nat.lt_of_lt_of_le hk h.size)).trans (h.block k hk hne)⟩
/-- one number is picked -/
def Some1 (w : World) (s : Nat) (e : Ending) (w' : World) : Prop := ∃ x : Int, e = .returned (.int .i64 x) ∧ Src w' s ∧ w.grownBy w' (some s)
theorem pick_some (w : World) (s b cap n : Nat) (zs : List Int) (h : Src w s) (hn : zs.length = n) (hb : ¬ b = s) (hl : 1 < n) (hl2 : n ≤ 1000) (hc : ∀ j, j < n → w.cell? ⟨b, j, none⟩ = some (.int .i64 (zs.getD j 0))) (hlt : b < w.heap.size) :
    Calls Try.prog 102 #[.pointer (some ⟨s, 0, none⟩), .slice (some ⟨b, 0, none⟩) n cap] w (Some1 w s) :=
  (pick_n w s b cap n zs h hn hb hl hl2 hc hlt).mono fun e w' ⟨j, _, he, hs, hg⟩ => ⟨_, he, hs, hg⟩
theorem pick4 (w : World) (s b cap : Nat) (z0 z1 z2 z3 : Int) (h : Src w s) (hb : ¬ b = s) (hk : w.heap[b]? = some (.cells #[.int .i64 z0, .int .i64 z1, .int .i64 z2, .int .i64 z3] 2 (0, 0))) :
    Calls Try.prog 102 #[.pointer (some ⟨s, 0, none⟩), .slice (some ⟨b, 0, none⟩) 4 cap] w (Some1 w s) :=
  pick_some w s b cap 4 [z0, z1, z2, z3] h rfl hb (by decide) (by decide) (fun j hj => (cell_of_row w b j _ _ _ hk).trans (match j, hj with
    | 0, _ => rfl
    | 1, _ => rfl
    | 2, _ => rfl
    | 3, _ => rfl)) (by obtain ⟨hlt, _⟩ := Array.getElem?_eq_some_iff.1 hk; exact hlt)
theorem pick3 (w : World) (s b cap : Nat) (z0 z1 z2 : Int) (h : Src w s) (hb : ¬ b = s) (hk : w.heap[b]? = some (.cells #[.int .i64 z0, .int .i64 z1, .int .i64 z2] 2 (0, 0))) :
    Calls Try.prog 102 #[.pointer (some ⟨s, 0, none⟩), .slice (some ⟨b, 0, none⟩) 3 cap] w (Some1 w s) :=
  pick_some w s b cap 3 [z0, z1, z2] h rfl hb (by decide) (by decide) (fun j hj => (cell_of_row w b j _ _ _ hk).trans (match j, hj with
    | 0, _ => rfl
    | 1, _ => rfl
    | 2, _ => rfl)) (by obtain ⟨hlt, _⟩ := Array.getElem?_eq_some_iff.1 hk; exact hlt)
theorem pick5 (w : World) (s b cap : Nat) (z0 z1 z2 z3 z4 : Int) (h : Src w s) (hb : ¬ b = s) (hk : w.heap[b]? = some (.cells #[.int .i64 z0, .int .i64 z1, .int .i64 z2, .int .i64 z3, .int .i64 z4] 2 (0, 0))) :
    Calls Try.prog 102 #[.pointer (some ⟨s, 0, none⟩), .slice (some ⟨b, 0, none⟩) 5 cap] w (Some1 w s) :=
  pick_some w s b cap 5 [z0, z1, z2, z3, z4] h rfl hb (by decide) (by decide) (fun j hj => (cell_of_row w b j _ _ _ hk).trans (match j, hj with
    | 0, _ => rfl
    | 1, _ => rfl
    | 2, _ => rfl
    | 3, _ => rfl
    | 4, _ => rfl)) (by obtain ⟨hlt, _⟩ := Array.getElem?_eq_some_iff.1 hk; exact hlt)
/-- what a draw of a fraction leaves -/
def RatDrawn (w : World) (s : Nat) (e : Ending) (w' : World) : Prop := ∃ x y : Int, e = .returned (.agg #[.int .i64 x, .int .i64 y]) ∧ Src w' s ∧ w.grownBy w' (some s)
def Rat2Drawn (w : World) (s : Nat) (e : Ending) (w' : World) : Prop := ∃ x y u v : Int, e = .returned (.tuple #[.agg #[.int .i64 x, .int .i64 y], .agg #[.int .i64 u, .int .i64 v]]) ∧ Src w' s ∧ w.grownBy w' (some s)
theorem Rzz.al {w : World} {g : Nat} (h : Rzz w g) (o : Obj) : Rzz (w.alloc o) g := kz h ((Below.refl _ _).alloc (Nat.le_refl _) o)
theorem two_set {w w' : World} {s g : Nat} {a b : Value} (h : w.grownBy w' (some s)) (hg : w.heap.size ≤ g) : w.grownBy ((w'.setCell ⟨g, 0, none⟩ a).setCell ⟨g, 1, none⟩ b) (some s) := grown_set_new (grown_set_new h hg _) hg _
theorem src_set {w : World} {s g : Nat} {a b : Value} (h : Src w s) (hg : s < g) : Src ((w.setCell ⟨g, 0, none⟩ a).setCell ⟨g, 1, none⟩ b) s := (h.set_far hg _).set_far hg _

end Go.Proofs.Ytcaekheghjnipaa
