/- The layer of a depth: contracts of the program's search over the knots and of the model's. -/
import Derived.Test.YtcaekheghjnipabDoorKnots
namespace Go.Proofs.YtcaekheghjnipabDoor
open Go.ChangeShapes Go.WideShapes Go.ChangeAt Go.RowKit Go.Shelf Num
set_option linter.unusedVariables false
attribute [local go_sem] Oper.semAt_some

/-- the last of the knots pre that lies above the depth d -/
def layF (zs : List Int) (d : Int) (pre : List Nat) : Nat := pre.foldl (fun l k => if zs.getD k 0 < d then k else l) 0
theorem layF_snoc (zs : List Int) (d : Int) (pre : List Nat) (x : Nat) : layF zs d (pre ++ [x]) = if zs.getD x 0 < d then x else layF zs d pre := by simp [layF]
def layN (zs : List Int) (d : Int) : Nat := layF zs d (List.range zs.length)
theorem layF_range (zs : List Int) (d : Int) : ∀ n, (layF zs d (List.range n) = 0 ∨ zs.getD (layF zs d (List.range n)) 0 < d) ∧ (layF zs d (List.range n) = 0 ∨ layF zs d (List.range n) < n) ∧ ∀ j, layF zs d (List.range n) < j → j < n → d ≤ zs.getD j 0
  | 0 => ⟨.inl rfl, .inl rfl, fun j _ h => by omega⟩
  | n + 1 => by
    obtain ⟨h1, h2, h3⟩ := layF_range zs d n
    rw [List.range_succ, layF_snoc]
    by_cases h : zs.getD n 0 < d
    · rw [if_pos h]
      exact ⟨.inr h, .inr (by omega), fun j h4 h5 => by omega⟩
    · rw [if_neg h]
      exact ⟨h1, by omega, fun j h4 h5 => by
        rcases Nat.lt_or_ge j n with hj | hj
        · exact h3 j h4 hj
        · obtain rfl : j = n := by omega
          omega⟩
theorem layN_lt {zs ys : List Int} {d : Int} (h : Okp zs ys) (hd : d ≤ zs.getD (zs.length - 1) 0) : layN zs d + 1 < zs.length := by
  obtain ⟨h1, h2, _⟩ := layF_range zs d zs.length
  have hn := h.n2
  have := h.n12
  unfold layN
  rcases h1 with h1 | h1
  · omega
  · rcases h2 with h2 | h2
    · omega
    · rcases Nat.lt_or_ge (layF zs d (List.range zs.length) + 1) zs.length with hlt | hge
      · exact hlt
      · rw [show layF zs d (List.range zs.length) = zs.length - 1 by omega] at h1; omega
theorem layN_le {zs ys : List Int} {d : Int} (h : Okp zs ys) (h0 : 0 ≤ d) : zs.getD (layN zs d) 0 ≤ d := by
  obtain ⟨h1, _, _⟩ := layF_range zs d zs.length
  unfold layN
  rcases h1 with h1 | h1
  · rw [h1, h.zero]; exact h0
  · omega
theorem layN_ge {zs ys : List Int} {d : Int} (h : Okp zs ys) (hd : d ≤ zs.getD (zs.length - 1) 0) : d ≤ zs.getD (layN zs d + 1) 0 := by
  have hlt := layN_lt h hd
  obtain ⟨_, _, h3⟩ := layF_range zs d zs.length
  exact h3 _ (by unfold layN; omega) hlt
/-- the layer is the only number with its two properties -/
theorem layN_uniq {zs ys : List Int} {d : Int} (h : Okp zs ys) {k : Nat} (hk : k + 1 < zs.length) (h1 : k = 0 ∨ zs.getD k 0 < d) (h2 : d ≤ zs.getD (k + 1) 0) : layN zs d = k := by
  obtain ⟨g1, g2, g3⟩ := layF_range zs d zs.length
  have e : layN zs d = layF zs d (List.range zs.length) := rfl
  rw [← e] at g1 g2 g3
  rcases Nat.lt_trichotomy (layN zs d) k with hlt | he | hgt
  · have := g3 k hlt (by omega)
    rcases h1 with h1 | h1 <;> omega
  · exact he
  · have := h.mono (i := k + 1) (layN zs d)
    rcases g1 with g1 | g1
    · omega
    · rcases Nat.lt_or_ge (k + 1) (layN zs d) with hk1 | hk1
      · have := this hk1 (by omega); omega
      · obtain hke : layN zs d = k + 1 := by omega
        rw [hke] at g1; omega

end Go.Proofs.YtcaekheghjnipabDoor
