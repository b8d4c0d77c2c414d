/- The walks of the exact laws of IsSignal, EnergyOf, SidelobeOf, Correlations, TurnSignal, PulseOfBits: each returns true and writes nothing that was there. -/
import Derived.Test.YtlahgdhofakinaaPuT
import Derived.Test.YtlahgdhofakinaaPuQ
namespace Go.Proofs.Ytlahgdhofakinaa
open Go.ChangeShapes Go.WideShapes Go.ChangeAt Go.RowKit Go.Shelf Num
set_option linter.unusedVariables false
set_option linter.unusedSimpArgs false
theorem ownA_new {W : World} {g lo : Nat} {zs : List Int} (h : W.rowIs g 2 zs.length (cellsOf zs)) (hl : lo ≤ g) (hn : zs.length ≤ 1048576) : OwnA W lo W.heap.size (some ⟨g, 0, none⟩) zs.length zs := by
  obtain ⟨cs, hg, hs, hc⟩ := h
  have hlt := (Array.getElem?_eq_some_iff.1 hg).1
  refine ⟨⟨by simp, Or.inr ⟨g, zs.length, cs, rfl, hl, hg, Nat.le_refl _, by unfold maxLen; omega, by rw [hs, Nat.mul_one], ?_⟩⟩, fun g' e => ?_, Nat.le_refl _⟩
  · rw [Nat.mul_one, ← hs, List.take_of_length_le (by simp)]
    apply List.ext_getElem (by simp [hs])
    intro i h1 h2
    have hi : i < zs.length := by simpa using h2
    have := hc i hi
    rw [Array.getElem?_eq_getElem (by omega)] at this
    simp only [Option.some.injEq] at this
    rw [Array.getElem_toList, this, List.getElem_map]
    unfold cellsOf iv4
    rw [List.getD_eq_getElem?_getD, List.getElem?_eq_getElem hi]; rfl
  · simp only [Value.ownBlock, Option.map_some, Option.some.injEq] at e
    subst e
    exact hlt
/-- a list by a contract that asks for its slot's length -/
theorem ownA_cap {W : World} {lo hi : Nat} {a : Option Addr} {c : Nat} {zs : List Int} (h : OwnA W lo hi a c zs) : zs.length ≤ c := own_caps h.own
end Go.Proofs.Ytlahgdhofakinaa
