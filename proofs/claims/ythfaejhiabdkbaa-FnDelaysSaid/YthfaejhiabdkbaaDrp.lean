/- The model's draw of a profile: two rows of its own that grow by turns. The contract of the model's draw of a profile. The model's draws of a profile with a number of a knot or layer: contracts. The laws' draws of a profile and a knot or layer out of a code: contracts. -/
import Derived.Test.YthfaejhiabdkbaaDrw
import Derived.Test.YthfaejhiabdkbaaPrs
import Derived.Deep.AppendLies
import Derived.Maps.AppendAt
import Derived.OwnWalk
import Derived.LoopTactic
import Derived.Test.YthfaejhiabdkbaaBas
import Derived.Deep.RegionWith
namespace Go.Proofs.Ythfaejhiabdkbaa
open Go.ChangeShapes Go.WideShapes Go.ChangeAt Go.RowKit Go.Shelf
set_option linter.unusedVariables false
/-- a number of four is picked -/
theorem pick4c (w : World) (s b cap : Nat) (z0 z1 z2 z3 : Int) (h : Src w s) (hb : ¬ b = s) (hk : w.heap[b]? = some (.cells #[.int .i64 z0, .int .i64 z1, .int .i64 z2, .int .i64 z3] 2 (0, 0))) :
    Calls Try.prog 61 #[.pointer (some ⟨s, 0, none⟩), .slice (some ⟨b, 0, none⟩) 4 cap] w fun e w' => ∃ x : Int, e = .returned (.int .i64 x) ∧ (x = z0 ∨ x = z1 ∨ x = z2 ∨ x = z3) ∧ Src w' s ∧ w.grownBy w' (some s) :=
  (pick_n w s b cap 4 [z0, z1, z2, z3] h rfl hb (by decide) (by decide) (fun j hj => (cell_of_row w b j _ _ _ hk).trans (match j, hj with
    | 0, _ => rfl
    | 1, _ => rfl
    | 2, _ => rfl
    | 3, _ => rfl)) (by obtain ⟨hlt, _⟩ := Array.getElem?_eq_some_iff.1 hk; exact hlt)).mono fun e w' ⟨j, hj, he, hs, hg⟩ => ⟨_, he, by
      match j, hj with
      | 0, _ => exact Or.inl rfl
      | 1, _ => exact Or.inr (Or.inl rfl)
      | 2, _ => exact Or.inr (Or.inr (Or.inl rfl))
      | 3, _ => exact Or.inr (Or.inr (Or.inr rfl)), hs, hg⟩
theorem pick2 (w : World) (s b cap : Nat) (z0 z1 : Int) (h : Src w s) (hb : ¬ b = s) (hk : w.heap[b]? = some (.cells #[.int .i64 z0, .int .i64 z1] 2 (0, 0))) :
    Calls Try.prog 61 #[.pointer (some ⟨s, 0, none⟩), .slice (some ⟨b, 0, none⟩) 2 cap] w (Some1 w s) :=
  pick_some w s b cap 2 [z0, z1] h rfl hb (by decide) (by decide) (fun j hj => (cell_of_row w b j _ _ _ hk).trans (match j, hj with
    | 0, _ => rfl
    | 1, _ => rfl)) (by obtain ⟨hlt, _⟩ := Array.getElem?_eq_some_iff.1 hk; exact hlt)
section
variable {w W W' : World} {s c1 c2 : Nat} {a1 a2 : Option Addr} {L1 L2 : List Int}
theorem own_ne {v : Value} {k : Nat} (h : v.ownBlock ≠ some k) : v.ownBlock = none ∨ v.ownBlock ≠ some k := Or.inr h
end
/-- what a draw of a profile leaves -/
def PrDrawn (w : World) (s : Nat) (e : Ending) (w' : World) : Prop :=
  ∃ (a b : Option Addr) (c d : Nat) (zs ys : List Int), e = .returned (.agg #[.slice a zs.length c, .slice b ys.length d]) ∧ zs.length ≤ 20 ∧ ys.length ≤ 20 ∧ zs.length ≤ c ∧ ys.length ≤ d ∧ Prof w' w'.heap.size a b zs ys ∧ (∀ x, a = some x → w.heap.size < x.block) ∧ (∀ x, b = some x → w.heap.size < x.block) ∧ Src w' s ∧ w.grownBy w' (some s)
end Go.Proofs.Ythfaejhiabdkbaa
namespace Go.Proofs.Ythfaejhiabdkbaa
open Go.ChangeShapes Go.WideShapes Go.ChangeAt Go.RowKit Go.Shelf
set_option linter.unusedVariables false
attribute [local go_sem ↓] Go.wp_at_zero Go.wp_at_succ
end Go.Proofs.Ythfaejhiabdkbaa
namespace Go.Proofs.Ythfaejhiabdkbaa
open Go.ChangeShapes Go.WideShapes Go.ChangeAt Go.RowKit Go.Shelf
set_option linter.unusedVariables false
attribute [local go_sem ↓] Go.wp_at_zero Go.wp_at_succ
theorem bkD {W : World} {B : Nat} {cs : Array Value} {t : TypeId} (h : Bk W B cs t) : Bk W.drew B cs t := h
theorem ints_at {w w' : World} {B : Nat} {a : Option Addr} {zs : List Int} (h : Ints .i64 w B a zs) (hk : ∀ x, a = some x → x.block < w.heap.size → w'.heap[x.block]? = w.heap[x.block]?) : Ints .i64 w' B a zs := fun hp => by
  obtain ⟨b, off, e, hB, hc⟩ := h hp
  have hlt := cell_lt (hc 0 hp)
  have hh := hk _ e hlt
  exact ⟨b, off, e, hB, fun j hj => (World.cell?_of_block (w := w) (w' := w') (a := ⟨b, off + j, none⟩) hh).trans (hc j hj)⟩
theorem prof_at {w w' : World} {B : Nat} {a b : Option Addr} {zs ys : List Int} (h : Prof w B a b zs ys) (h1 : ∀ x, a = some x → x.block < w.heap.size → w'.heap[x.block]? = w.heap[x.block]?) (h2 : ∀ x, b = some x → x.block < w.heap.size → w'.heap[x.block]? = w.heap[x.block]?) : Prof w' B a b zs ys :=
  ⟨ints_at h.dz h1, ints_at h.sy h2, h.lz, h.ly⟩
/-- a profile beyond a mark -/
structure PrA (w : World) (m : Nat) (a b : Option Addr) (c d : Nat) (zs ys : List Int) : Prop where
  at_ : Prof w w.heap.size a b zs ys
  lo1 : ∀ x, a = some x → m < x.block
  lo2 : ∀ x, b = some x → m < x.block
  n1 : zs.length ≤ 20
  n2 : ys.length ≤ 20
  c1 : zs.length ≤ c
  c2 : ys.length ≤ d
theorem PrA.grown {w w' : World} {m s c d : Nat} {a b : Option Addr} {zs ys : List Int} (h : PrA w m a b c d zs ys) (hs : s ≤ m) (hg : w.grownBy w' (some s)) : PrA w' m a b c d zs ys :=
  ⟨(prof_at h.at_ (fun x e hx => hg.block _ hx (by have := h.lo1 x e; simp; omega)) (fun x e hx => hg.block _ hx (by have := h.lo2 x e; simp; omega))).more hg.size, h.lo1, h.lo2, h.n1, h.n2, h.c1, h.c2⟩
theorem PrA.on {w w' : World} {m c d : Nat} {a b : Option Addr} {zs ys : List Int} (h : PrA w m a b c d zs ys) (hb : Below w.heap.size w w') : PrA w' m a b c d zs ys := ⟨h.at_.on hb, h.lo1, h.lo2, h.n1, h.n2, h.c1, h.c2⟩
theorem PrA.set {w : World} {m c d : Nat} {a b : Option Addr} {zs ys : List Int} (h : PrA w m a b c d zs ys) (p : Addr) (hp : p.block ≤ m) (v : Value) : PrA (w.setCell p v) m a b c d zs ys :=
  ⟨(prof_at h.at_ (fun x e hx => Below.heap_setCell w p v _ (by have := h.lo1 x e; omega)) (fun x e hx => Below.heap_setCell w p v _ (by have := h.lo2 x e; omega))).more (by simp), h.lo1, h.lo2, h.n1, h.n2, h.c1, h.c2⟩
/-- what a draw of a profile and a number leaves -/
def PrKDrawn (w : World) (s : Nat) (e : Ending) (w' : World) : Prop :=
  ∃ (a b : Option Addr) (c d : Nat) (zs ys : List Int) (x : Int), e = .returned (.tuple #[.agg #[.slice a zs.length c, .slice b ys.length d], .int .i64 x]) ∧ PrA w' w.heap.size a b c d zs ys ∧ w.grownBy w' (some s) ∧ Src w' s
end Go.Proofs.Ythfaejhiabdkbaa
namespace Go.Proofs.Ythfaejhiabdkbaa
open Go.ChangeShapes Go.WideShapes Go.ChangeAt Go.RowKit Go.Shelf
set_option linter.unusedVariables false
attribute [local go_sem ↓] Go.wp_at_zero Go.wp_at_succ
/-- a profile drawn -/
structure PrN (w : World) (a b : Option Addr) (zs ys : List Int) : Prop where
  at_ : Prof w w.heap.size a b zs ys
  n1 : zs.length ≤ 20
  n2 : ys.length ≤ 20
theorem PrN.on {w w' : World} {a b : Option Addr} {zs ys : List Int} (h : PrN w a b zs ys) (hb : Below w.heap.size w w') : PrN w' a b zs ys := ⟨h.at_.on hb, h.n1, h.n2⟩
def PrK1 (w : World) (e : Ending) (w' : World) : Prop := ∃ (a b : Option Addr) (c d : Nat) (zs ys : List Int) (x : Int), e = .returned (.tuple #[.agg #[.slice a zs.length c, .slice b ys.length d], .int .i64 x]) ∧ PrN w' a b zs ys ∧ Below w.heap.size w w'
def Pr1 (w : World) (e : Ending) (w' : World) : Prop := ∃ (a b : Option Addr) (c d : Nat) (zs ys : List Int), e = .returned (.agg #[.slice a zs.length c, .slice b ys.length d]) ∧ PrN w' a b zs ys ∧ Below w.heap.size w w'

end Go.Proofs.Ythfaejhiabdkbaa
