/- A slice of structs of two 64-bit integers that came in, opened. -/
import Derived.Test.YtlahgdhofakinaaBas
import Derived.Deep.Slices
import Derived.Deep.Fields
import Derived.ChangeSame
namespace Go.Proofs.Ytlahgdhofakinaa
open Go.ChangeShapes Go.WideShapes Go.ChangeAt Go.RowKit Go.Deep
set_option linter.unusedVariables false
/-- what a walk is told of a slice of structs of two integers that came in: all of its cells, up to the capacity -/
def IsRow2 (w : World) (a : Option Addr) (len cap : Nat) (zs : List Int) : Prop :=
  (a = none ∧ len = 0 ∧ cap = 0 ∧ zs = []) ∨
  ∃ x, a = some x ∧ len ≤ cap ∧ cap ≤ maxLen ∧ zs.length = cap * 2 ∧ ∀ i, i < zs.length → w.cell? (x.add i) = some (.int .i64 (zs.getD i 0))

section
variable {H : Type} {enc : TypeId × Value → H} {P : Program} {w : World} {base : Nat}
theorem open_row2 {t e : TypeId} {f0 f1 : Field} {fuel : Nat} {cs : List Value} {x : DataW H × List MemPlace} (ht : P.underlying t = some (.slice e)) (he : P.underlying e = some (.struct #[f0, f1]))
    (h0 : P.underlying f0.type = some (.int .i64)) (h1 : P.underlying f1.type = some (.int .i64)) (hone : oneCellFields P #[f0, f1] = true) (hC : P.cellsOf e = 2)
    (h : DataW.trod enc P w base (fun _ => true) true fuel t cs = some x) : ∃ (a : Option Addr) (len cap : Nat) (zs : List Int), cs = [.slice a len cap] ∧ IsRow2 w a len cap zs := by
  rcases open_slice ht h with ⟨rfl, _⟩ | ⟨a, len, cap, m, n, D, Pl, rfl, hb, hl, hm, hmm, hx, hi⟩
  · exact ⟨none, 0, 0, [], rfl, Or.inl ⟨rfl, rfl, rfl, rfl⟩⟩
  · obtain rfl : m = cap := by simpa using hmm
    have each : ∀ q, q < m * 2 → ∃ z : Int, w.cell? (a.add q) = some (.int .i64 z) := by
      intro q hq
      obtain ⟨cs', hc, htr⟩ := hi (q / 2) (by omega)
      rw [hC] at hc
      obtain ⟨_, hcl, hat⟩ := World.cells?_some hc
      obtain ⟨y0, y1, n', _, _, t0, t1⟩ := trod_struct2 he htr
      obtain ⟨o0, k0⟩ := hone_of hone 0 f0 rfl
      obtain ⟨o1, k1⟩ := hone_of hone 1 f1 rfl
      rw [o0, k0] at t0
      rw [o1, k1] at t1
      obtain ⟨z0, e0, _, _⟩ := DataW.trod_int h0 t0
      obtain ⟨z1, e1, _, _⟩ := DataW.trod_int h1 t1
      match cs', hcl with
      | [c0, c1], _ =>
        simp at e0 e1
        subst e0 e1
        rcases (by omega : q % 2 = 0 ∨ q % 2 = 1) with hq2 | hq2
        · have := hat 0 (by omega)
          rw [add_add, show q / 2 * 2 + 0 = q by omega] at this
          exact ⟨z0, this⟩
        · have := hat 1 (by omega)
          rw [add_add, show q / 2 * 2 + 1 = q by omega] at this
          exact ⟨z1, this⟩
    obtain ⟨f, hf⟩ := choose_lt each
    refine ⟨some a, len, m, (List.range (m * 2)).map f, rfl, Or.inr ⟨a, rfl, hl, hm, by simp, fun i hi => ?_⟩⟩
    have hi' : i < m * 2 := by simpa using hi
    rw [hf i hi', List.getD_eq_getElem?_getD]
    simp [hi']
end

end Go.Proofs.Ytlahgdhofakinaa
