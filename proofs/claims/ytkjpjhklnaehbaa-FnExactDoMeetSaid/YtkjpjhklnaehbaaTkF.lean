/- A track among the arguments, opened and shut. -/
import Derived.Test.YtkjpjhklnaehbaaChecked
import Derived.WalkKit
import Derived.ProofKit
import Derived.OpenShut
import Derived.ChangeArms
import Derived.Lib.SmallJoins
import Derived.Deep.Strs
namespace Go.Proofs.Ytkjpjhklnaehbaa
open Go.ChangeShapes Go.WideShapes Go.ChangeAt Go.RowKit
set_option linter.unusedVariables false
set_option maxRecDepth 100000 in
theorem open_trk {H : Type} {enc : TypeId × Value → H} {w : World} {base : Nat} {spare : Nat → Bool} {held : Bool} {r : Reach} {b0 : Nat} {v : Value} {d : DataW H} {p : List MemPlace} (hv : Value.okWide Try.prog w r b0 40 v) (h : DataW.Trod enc Try.prog w base spare held 40 v d p) :
    ∃ x y s t : Int, v = .agg #[.int .i64 x, .int .i64 y, .int .i64 s, .int .i64 t] ∧ d = .agg [.agg [.lit (.int .i64 x), .lit (.int .i64 y)], .agg [.lit (.int .i64 s), .lit (.int .i64 t)]] ∧ p = [] ∧ (Lit.int .i64 x).wf = true ∧ (Lit.int .i64 y).wf = true ∧ (Lit.int .i64 s).wf = true ∧ (Lit.int .i64 t).wf = true := by
  obtain ⟨cs, rfl, hsz⟩ := okWide_struct Try.underlying40 hv
  obtain ⟨c0, c1, c2, c3, rfl⟩ := Go.Joins.array4 (hsz.trans (show Try.prog.cellsOf 40 = 4 by kernel_rfl))
  obtain ⟨fuel, hf⟩ := h
  obtain ⟨y0, y1, n, hx, _, h0, h1⟩ := trod_struct2 Try.underlying40 hf
  have k0 : Try.prog.cellsOf 2 = 1 := by kernel_rfl
  have k2 : Try.prog.cellsOf 23 = 2 := by kernel_rfl
  simp [Value.cells, k2] at h0 h1
  obtain ⟨z0, z1, m, hy, _, g0, g1⟩ := trod_struct2 Try.underlying23 h0
  obtain ⟨z2, z3, m2, hy2, _, g2, g3⟩ := trod_struct2 Try.underlying23 h1
  simp [k0] at g0 g1 g2 g3
  obtain ⟨x, e0, rfl, w0⟩ := DataW.trod_int Try.underlying2 g0
  obtain ⟨y, e1, rfl, w1⟩ := DataW.trod_int Try.underlying2 g1
  obtain ⟨s, e2, rfl, w2⟩ := DataW.trod_int Try.underlying2 g2
  obtain ⟨t, e3, rfl, w3⟩ := DataW.trod_int Try.underlying2 g3
  simp at e0 e1 e2 e3
  subst e0 e1 e2 e3 hy hy2
  simp only [Prod.mk.injEq] at hx
  exact ⟨x, y, s, t, rfl, hx.1, by rw [hx.2]; rfl, w0, w1, w2, w3⟩
set_option maxRecDepth 100000 in
theorem shut_trk {H : Type} {enc : TypeId × Value → H} {w : World} {base : Nat} {spare : Nat → Bool} {held : Bool} {x y s t : Int} (w0 : (Lit.int .i64 x).wf = true) (w1 : (Lit.int .i64 y).wf = true) (w2 : (Lit.int .i64 s).wf = true) (w3 : (Lit.int .i64 t).wf = true) :
    DataW.Trod enc Try.prog w base spare held 40 (.agg #[.int .i64 x, .int .i64 y, .int .i64 s, .int .i64 t]) (.agg [.agg [.lit (.int .i64 x), .lit (.int .i64 y)], .agg [.lit (.int .i64 s), .lit (.int .i64 t)]]) [] := by
  have k0 : Try.prog.cellsOf 2 = 1 := by kernel_rfl
  have k2 : Try.prog.cellsOf 23 = 2 := by kernel_rfl
  have k3 : Try.prog.cellsOf 40 = 4 := by kernel_rfl
  have i0 : ∀ (n : Nat) (x : Int), (Lit.int .i64 x).wf = true → DataW.trod enc Try.prog w base spare held (n + 1) 2 [.int .i64 x] = some (.lit (.int .i64 x), []) := fun n x hx => by simp [DataW.trod, Try.underlying2, hx]
  have p1 := trod_struct2_mk (enc := enc) (w := w) (base := base) (spare := spare) (held := held) (n := 1) (cs := [.int .i64 x, .int .i64 y]) Try.underlying23 (by simp [k2]) (by simpa [k0] using i0 0 x w0) (by simpa [k0] using i0 0 y w1)
  have p2 := trod_struct2_mk (enc := enc) (w := w) (base := base) (spare := spare) (held := held) (n := 1) (cs := [.int .i64 s, .int .i64 t]) Try.underlying23 (by simp [k2]) (by simpa [k0] using i0 0 s w2) (by simpa [k0] using i0 0 t w3)
  have s3 := trod_struct2_mk (enc := enc) (w := w) (base := base) (spare := spare) (held := held) (n := 2) (cs := [.int .i64 x, .int .i64 y, .int .i64 s, .int .i64 t]) Try.underlying40 (by simp [k3]) (by simpa [k2] using p1) (by simpa [k2] using p2)
  exact ⟨_, by simpa [Value.cells] using s3⟩
end Go.Proofs.Ytkjpjhklnaehbaa
