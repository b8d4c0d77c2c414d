/- Contracts of CanCross and SineAt of the program. Contracts of CanCross and SineAt of the model. -/
import Derived.Test.YthfaejhiabdkbaaRys
import Derived.Test.YthfaejhiabdkbaaRayS
namespace Go.Proofs.Ythfaejhiabdkbaa
open Go.ChangeShapes Go.WideShapes Go.ChangeAt Go.RowKit Go.Shelf Num
set_option linter.unusedVariables false

/-- the code of a ray at a knot -/
def rcod (zs ys : List Int) (src c s h k : Int) : Int := rcT (prfB zs ys) (dirB c s h) (hkB zs src) (hkB zs k)
/-- the scale of a ray, its cosine at a knot -/
def rA (ys : List Int) (src h : Int) : Int := h * ys.getD src.toNat 0
def rB (ys : List Int) (k c : Int) : Int := c * ys.getD k.toNat 0
def crB (ys : List Int) (src c h k : Int) : Bool := decide (rB ys k c < rA ys src h)
def sqN (ys : List Int) (src c h k : Int) : Int := rA ys src h * rA ys src h - rB ys k c * rB ys k c
def ccT (zs ys : List Int) (src c s h k : Int) : Bool × Int := if rcod zs ys src c s h k = 0 then (crB ys src c h k, 0) else (false, rcod zs ys src c s h k)
def snT (zs ys : List Int) (src c s h k : Int) : Int × Int × Int := if rcod zs ys src c s h k = 0 then (if crB ys src c h k then (rt (sqN ys src c h k), rtup (sqN ys src c h k), 0) else (0, 0, 5)) else (0, 0, rcod zs ys src c s h k)
theorem rcod_0 {zs ys : List Int} {src c s h k : Int} (e : rcod zs ys src c s h k = 0) : prfB zs ys = true ∧ DirOk c s h ∧ (∃ i : Nat, src = (i : Int) ∧ i < zs.length) ∧ (∃ j : Nat, k = (j : Int) ∧ j < zs.length) := by
  obtain ⟨h1, h2, h3, h4⟩ := rcT_0 e
  have g3 := hkB_t h3
  have g4 := hkB_t h4
  exact ⟨h1, dirB_t h2, ⟨src.toNat, by omega, by omega⟩, ⟨k.toNat, by omega, by omega⟩⟩
theorem rA_nat (ys : List Int) (i : Nat) (h : Int) : rA ys (i : Int) h = h * ys.getD i 0 := rfl
theorem rB_nat (ys : List Int) (k : Nat) (c : Int) : rB ys (k : Int) c = c * ys.getD k 0 := rfl
theorem res3 {t : Int × Int × Int} {a b c : Int} (h : t = (a, b, c)) : Ending.returned (.tuple #[.agg #[.int .i64 a, .int .i64 b], .int .i64 c]) = .returned (.tuple #[.agg #[.int .i64 t.1, .int .i64 t.2.1], .int .i64 t.2.2]) := by subst h; rfl
theorem resB {t : Bool × Int} {a : Bool} {c : Int} (h : t = (a, c)) : Ending.returned (.tuple #[.bool a, .int .i64 c]) = .returned (.tuple #[.bool t.1, .int .i64 t.2]) := by subst h; rfl

end Go.Proofs.Ythfaejhiabdkbaa
namespace Go.Proofs.Ythfaejhiabdkbaa
open Go.ChangeShapes Go.WideShapes Go.ChangeAt Go.RowKit Go.Shelf Num
set_option linter.unusedVariables false

end Go.Proofs.Ythfaejhiabdkbaa
