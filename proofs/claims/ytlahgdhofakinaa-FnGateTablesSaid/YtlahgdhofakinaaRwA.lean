/- Slices of slices of 64-bit integers as lists of lists: what a walk is told of one that came in; rows of one's own; compared, measured, copied, marked. -/
import Derived.Test.YtlahgdhofakinaaLys
import Derived.Test.YtlahgdhofakinaaRowG
import Derived.Test.YtlahgdhofakinaaPrs
import Derived.Deep.Matrix
import Derived.Outline
namespace Go.Proofs.Ytlahgdhofakinaa
open Go.ChangeShapes Go.WideShapes Go.ChangeAt Go.RowKit Go.Shelf Num
set_option linter.unusedVariables false
set_option linter.unusedSimpArgs false
/-- the row number j -/
def gR (zss : List (List Int)) (j : Nat) : List Int := zss.getD j []
theorem gR_map {n j : Nat} (f : Nat → List Int) (h : j < n) : gR ((List.range n).map f) j = f j := by
  unfold gR; rw [List.getD_eq_getElem?_getD, List.getElem?_map, List.getElem?_range h]; rfl
theorem gR_ext {xss yss : List (List Int)} (hl : xss.length = yss.length) (h : ∀ j, j < xss.length → gR xss j = gR yss j) : xss = yss := by
  apply List.ext_getElem hl
  intro i h1 h2
  have := h i h1
  unfold gR at this
  rwa [List.getD_eq_getElem?_getD, List.getD_eq_getElem?_getD, List.getElem?_eq_getElem h1, List.getElem?_eq_getElem h2] at this
/-- the slice at 'a' reads as the rows 'zss'; its memory lies below block B -/
def RwL (w : World) (B : Nat) (a : Option Addr) (zss : List (List Int)) : Prop :=
  0 < zss.length → ∃ b off, a = some ⟨b, off, none⟩ ∧ b < B ∧ ∀ j, j < zss.length → ∃ (p : Option Addr) (c : Nat), w.cell? ⟨b, off + j, none⟩ = some (.slice p (gR zss j).length c) ∧ (gR zss j).length ≤ c ∧ Ints .i64 w B p (gR zss j)
theorem RwL.below {w w' : World} {B : Nat} {a : Option Addr} {zss : List (List Int)} (h : RwL w B a zss) (hb : Below B w w') : RwL w' B a zss := fun hp => by
  obtain ⟨b, off, e, hB, hc⟩ := h hp
  refine ⟨b, off, e, hB, fun j hj => ?_⟩
  obtain ⟨p, c, h1, h2, h3⟩ := hc j hj
  exact ⟨p, c, (hb.cell (p := ⟨b, off + j, none⟩) hB).trans h1, h2, h3.below hb⟩
theorem RwL.more {w : World} {B B' : Nat} {a : Option Addr} {zss : List (List Int)} (h : RwL w B a zss) (hb : B ≤ B') : RwL w B' a zss := fun hp => by
  obtain ⟨b, off, e, hB, hc⟩ := h hp
  refine ⟨b, off, e, by omega, fun j hj => ?_⟩
  obtain ⟨p, c, h1, h2, h3⟩ := hc j hj
  exact ⟨p, c, h1, h2, h3.more hb⟩
theorem RwL.at_ {w : World} {B : Nat} {a : Option Addr} {zss : List (List Int)} (h : RwL w B a zss) {j : Nat} (hj : j < zss.length) :
    ∃ b off p c, a = some ⟨b, off, none⟩ ∧ b < B ∧ w.cell? ⟨b, off + j, none⟩ = some (.slice p (gR zss j).length c) ∧ (gR zss j).length ≤ c ∧ Ints .i64 w B p (gR zss j) := by
  obtain ⟨b, off, e, hB, hc⟩ := h (by omega)
  obtain ⟨p, c, h1, h2, h3⟩ := hc j hj
  exact ⟨b, off, p, c, e, hB, h1, h2, h3⟩
/-- what a walk is told of a slice of slices that came in -/
def IsRows (w : World) (a : Option Addr) (len cap : Nat) (zss : List (List Int)) : Prop :=
  (a = none ∧ len = 0 ∧ cap = 0 ∧ zss = []) ∨
  ∃ x, a = some x ∧ len ≤ cap ∧ cap ≤ maxLen ∧ zss.length = cap ∧ ∀ r, r < cap → ∃ (p : Option Addr) (l c : Nat) (z : List Int), w.cell? (x.add r) = some (.slice p l c) ∧ IsRow .i64 w p l c z ∧ z.take l = gR zss r
section
variable {H : Type} {enc : TypeId × Value → H} {P : Program} {w : World} {base : Nat}
theorem open_rows {t e q : TypeId} {fuel : Nat} {cs : List Value} {x : DataW H × List MemPlace} (ht : P.underlying t = some (.slice e)) (he : P.underlying e = some (.slice q)) (hq : P.underlying q = some (.int .i64))
    (ce : P.cellsOf e = 1) (cq : P.cellsOf q = 1) (h : DataW.trod enc P w base (fun _ => true) true fuel t cs = some x) : ∃ (a : Option Addr) (len cap : Nat) (zss : List (List Int)), cs = [.slice a len cap] ∧ IsRows w a len cap zss := by
  rcases Go.Deep.open_int_rows ht he hq ce cq h with ⟨rfl, _⟩ | ⟨a, len, cap, A, L, C, Z, rfl, hb, hl, hm, _, hr⟩
  · exact ⟨none, 0, 0, [], rfl, Or.inl ⟨rfl, rfl, rfl, rfl⟩⟩
  · refine ⟨some a, len, cap, (List.range cap).map (fun r => (Z r).take (L r)), rfl, Or.inr ⟨a, rfl, hl, hm, by simp, fun r hr' => ?_⟩⟩
    obtain ⟨h1, h2, h3, h4, h5, h6, h7⟩ := hr r hr'
    refine ⟨A r, L r, C r, Z r, h1, ?_, by rw [gR_map _ hr']⟩
    cases hA : A r with
    | none =>
      have h0 := h6 hA
      exact Or.inl ⟨rfl, by omega, h0, List.length_eq_zero_iff.1 (by omega)⟩
    | some a' => exact Or.inr ⟨a', rfl, h2, h3, h4, fun i hi => (h7 a' hA).2 i (by omega), h5⟩
end
theorem len_row {w : World} {p : Option Addr} {l c : Nat} {z : List Int} (h : IsRow .i64 w p l c z) : l ≤ c := by
  rcases h with ⟨_, rfl, rfl, _⟩ | ⟨_, _, h, _⟩ <;> omega
theorem RwL.of_rows {w : World} {a : Option Addr} {len cap : Nat} {zss : List (List Int)} (h : IsRows w a len cap zss) :
    len ≤ 9223372036854775807 ∧ (zss.take len).length = len ∧ RwL w w.heap.size a (zss.take len) ∧ ∀ j, j < len → (gR (zss.take len) j).length ≤ 9223372036854775807 := by
  rcases h with ⟨rfl, rfl, rfl, rfl⟩ | ⟨x, rfl, hl, hm, hz, hc⟩
  · exact ⟨by omega, rfl, fun h => by simp at h, fun j hj => by omega⟩
  · have e : (zss.take len).length = len := by simp; omega
    unfold maxLen at hm
    have hg : ∀ j, j < len → gR (zss.take len) j = gR zss j := fun j hj => by
      unfold gR
      rw [List.getD_eq_getElem?_getD, List.getD_eq_getElem?_getD, List.getElem?_take, if_pos hj]
    refine ⟨by omega, e, fun hp => ?_, fun j hj => ?_⟩
    · have hp' : 0 < len := by omega
      obtain ⟨b, off, spot⟩ := x
      have hspot : spot = none := by
        obtain ⟨p, l, c, z, h1, -⟩ := hc 0 (by omega)
        simpa [Addr.add] using World.cell?_spot h1
      subst hspot
      have hat : ∀ j, (⟨b, off, none⟩ : Addr).add j = ⟨b, off + j, none⟩ := fun j => Go.WideShapes.add_plain _ _ _
      refine ⟨b, off, rfl, ?_, fun j hj => ?_⟩
      · obtain ⟨p, l, c, z, h1, -⟩ := hc 0 (by omega)
        rw [hat] at h1
        exact cell_lt h1
      · rw [e] at hj
        obtain ⟨p, l, c, z, h1, h2, h3⟩ := hc j (by omega)
        obtain ⟨k1, k2, k3, -⟩ := Ints.of_row h2
        rw [h3] at k2 k3
        rw [hat] at h1
        rw [hg j hj, k2]
        exact ⟨p, c, h1, len_row h2, k3⟩
    · obtain ⟨p, l, c, z, h1, h2, h3⟩ := hc j (by omega)
      obtain ⟨k1, k2, -, -⟩ := Ints.of_row h2
      rw [hg j hj, ← h3, k2]
      exact k1
end Go.Proofs.Ytlahgdhofakinaa
