/- The laws' draws of a profile and a knot or layer out of a code: contracts. -/
import Derived.Test.YtcaekheghjnipaaDKn
namespace Go.Proofs.Ytcaekheghjnipaa
open Go.ChangeShapes Go.WideShapes Go.ChangeAt Go.RowKit Go.Shelf
set_option linter.unusedVariables false
attribute [local go_sem ↓] Go.wp_at_zero Go.wp_at_succ
/-- a profile drawn -/
structure PrN (w : World) (a b : Option Addr) (zs ys : List Int) : Prop where
  at_ : Prof w w.heap.size a b zs ys
  n1 : zs.length ≤ 20
  n2 : ys.length ≤ 20
theorem PrN.on {w w' : World} {a b : Option Addr} {zs ys : List Int} (h : PrN w a b zs ys) (hb : Below w.heap.size w w') : PrN w' a b zs ys := ⟨h.at_.on hb, h.n1, h.n2⟩
def PrK1 (w : World) (e : Ending) (w' : World) : Prop := ∃ (a b : Option Addr) (c d : Nat) (zs ys : List Int) (x : Int), e = .returned (.tuple #[.agg #[.slice a zs.length c, .slice b ys.length d], .int .i64 x]) ∧ PrN w' a b zs ys ∧ Below w.heap.size w w'
def Pr1 (w : World) (e : Ending) (w' : World) : Prop := ∃ (a b : Option Addr) (c d : Nat) (zs ys : List Int), e = .returned (.agg #[.slice a zs.length c, .slice b ys.length d]) ∧ PrN w' a b zs ys ∧ Below w.heap.size w w'

end Go.Proofs.Ytcaekheghjnipaa
