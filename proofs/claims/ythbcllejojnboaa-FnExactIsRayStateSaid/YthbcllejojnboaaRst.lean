/- A ray's state among the arguments, opened and shut. -/
import Derived.Test.YthbcllejojnboaaChecked
import Derived.WalkKit
import Derived.ProofKit
import Derived.OpenShut
import Derived.ChangeArms
import Derived.Lib.SmallJoins
import Derived.Deep.Strs
namespace Go.Proofs.Ythbcllejojnboaa
open Go.ChangeShapes Go.WideShapes Go.ChangeAt Go.RowKit
set_option linter.unusedVariables false
set_option maxRecDepth 100000 in
theorem open_rst {H : Type} {enc : TypeId × Value → H} {w : World} {base : Nat} {spare : Nat → Bool} {held : Bool} {r : Reach} {b0 : Nat} {v : Value} {d : DataW H} {p : List MemPlace} (hv : Value.okWide Try.prog w r b0 69 v) (h : DataW.Trod enc Try.prog w base spare held 69 v d p) :
    ∃ (K : Int) (dn : Bool) (lo hi : Int), v = .agg #[.int .i64 K, .bool dn, .int .i64 lo, .int .i64 hi] ∧ d = .agg [.lit (.int .i64 K), .lit (.bool dn), .agg [.lit (.int .i64 lo), .lit (.int .i64 hi)]] ∧ p = [] ∧ (Lit.int .i64 K).wf = true ∧ (Lit.int .i64 lo).wf = true ∧ (Lit.int .i64 hi).wf = true := by
  obtain ⟨cs, rfl, hsz⟩ := okWide_struct Try.underlying69 hv
  obtain ⟨c0, c1, c2, c3, rfl⟩ := Go.Joins.array4 (hsz.trans (show Try.prog.cellsOf 69 = 4 by kernel_rfl))
  obtain ⟨fuel, hf⟩ := h
  obtain ⟨y0, y1, y2, n, hx, _, h0, h1, h2⟩ := Go.Deep.trod_struct3 Try.underlying69 hf
  have k0 : Try.prog.cellsOf 2 = 1 := by kernel_rfl
  have k1 : Try.prog.cellsOf 4 = 1 := by kernel_rfl
  have k2 : Try.prog.cellsOf 67 = 2 := by kernel_rfl
  simp [Value.cells, k0] at h0
  simp [Value.cells, k1] at h1
  simp [Value.cells, k2] at h2
  obtain ⟨z0, z1, m, hy, _, g0, g1⟩ := trod_struct2 Try.underlying67 h2
  simp [k0] at g0 g1
  obtain ⟨K, e0, rfl, w0⟩ := DataW.trod_int Try.underlying2 h0
  obtain ⟨dn, e1, rfl⟩ := DataW.trod_bool Try.underlying4 h1
  obtain ⟨lo, e2, rfl, w2⟩ := DataW.trod_int Try.underlying2 g0
  obtain ⟨hi, e3, rfl, w3⟩ := DataW.trod_int Try.underlying2 g1
  simp at e0 e1 e2 e3
  subst e0 e1 e2 e3 hy
  simp only [Prod.mk.injEq] at hx
  exact ⟨K, dn, lo, hi, rfl, hx.1, by rw [hx.2]; rfl, w0, w2, w3⟩
set_option maxRecDepth 100000 in
theorem shut_rst {H : Type} {enc : TypeId × Value → H} {w : World} {base : Nat} {spare : Nat → Bool} {held : Bool} {K : Int} {dn : Bool} {lo hi : Int} (w0 : (Lit.int .i64 K).wf = true) (w2 : (Lit.int .i64 lo).wf = true) (w3 : (Lit.int .i64 hi).wf = true) :
    DataW.Trod enc Try.prog w base spare held 69 (.agg #[.int .i64 K, .bool dn, .int .i64 lo, .int .i64 hi]) (.agg [.lit (.int .i64 K), .lit (.bool dn), .agg [.lit (.int .i64 lo), .lit (.int .i64 hi)]]) [] := by
  have k0 : Try.prog.cellsOf 2 = 1 := by kernel_rfl
  have k1 : Try.prog.cellsOf 4 = 1 := by kernel_rfl
  have k2 : Try.prog.cellsOf 67 = 2 := by kernel_rfl
  have k3 : Try.prog.cellsOf 69 = 4 := by kernel_rfl
  have i0 : ∀ (n : Nat) (x : Int), (Lit.int .i64 x).wf = true → DataW.trod enc Try.prog w base spare held (n + 1) 2 [.int .i64 x] = some (.lit (.int .i64 x), []) := fun n x hx => by simp [DataW.trod, Try.underlying2, hx]
  have b0 : ∀ (n : Nat), DataW.trod enc Try.prog w base spare held (n + 1) 4 [.bool dn] = some (.lit (.bool dn), []) := fun n => by simp [DataW.trod, Try.underlying4]
  have s2 := trod_struct2_mk (enc := enc) (w := w) (base := base) (spare := spare) (held := held) (n := 1) (cs := [.int .i64 lo, .int .i64 hi]) Try.underlying67 (by simp [k2]) (by simpa [k0] using i0 0 lo w2) (by simpa [k0] using i0 0 hi w3)
  have s3 := Go.Deep.trod_struct3_mk (enc := enc) (w := w) (base := base) (spare := spare) (held := held) (n := 2) (cs := [.int .i64 K, .bool dn, .int .i64 lo, .int .i64 hi]) Try.underlying69 (by simp [k3]) (by simpa [k0] using i0 1 K w0) (by simpa [k1] using b0 1) (by simpa [k2] using s2)
  exact ⟨_, by simpa [Value.cells] using s3⟩
end Go.Proofs.Ythbcllejojnboaa
