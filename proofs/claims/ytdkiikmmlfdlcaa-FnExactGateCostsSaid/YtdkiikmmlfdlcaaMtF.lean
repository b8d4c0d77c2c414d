/- A motion among the arguments, by value, opened and shut; a slice of motions that came in, opened. -/
import Derived.Test.YtdkiikmmlfdlcaaChecked
import Derived.Test.YtdkiikmmlfdlcaaGtD
import Derived.WalkKit
import Derived.ProofKit
import Derived.OpenShut
import Derived.ChangeArms
import Derived.ChangeSame
import Derived.Lib.SmallJoins
import Derived.Deep.Strs
import Derived.Deep.Slices
import Derived.Deep.Fields
namespace Go.Proofs.Ytdkiikmmlfdlcaa
open Go.ChangeShapes Go.WideShapes Go.ChangeAt Go.RowKit Go.Deep
set_option linter.unusedVariables false
theorem arr5 {α : Type} {cs : Array α} (h : cs.size = 5) : ∃ c0 c1 c2 c3 c4, cs = #[c0, c1, c2, c3, c4] := by
  obtain ⟨l⟩ := cs
  match l, h with
  | [c0, c1, c2, c3, c4], _ => exact ⟨c0, c1, c2, c3, c4, rfl⟩
section
variable {H : Type} {enc : TypeId × Value → H} {P : Program} {w : World} {base : Nat} {spare : Nat → Bool} {held : Bool}
theorem trod_s5 {t : TypeId} {f0 f1 f2 f3 f4 : Field} {fuel : Nat} {cs : List Value} {x : DataW H × List MemPlace} (ht : P.underlying t = some (.struct #[f0, f1, f2, f3, f4])) (h : DataW.trod enc P w base spare held fuel t cs = some x) :
    ∃ y0 y1 y2 y3 y4 n, x = (.agg [y0.1, y1.1, y2.1, y3.1, y4.1], y0.2 ++ (y1.2 ++ (y2.2 ++ (y3.2 ++ y4.2)))) ∧ cs.length = P.cellsOf t ∧ DataW.trod enc P w base spare held n f0.type ((cs.drop f0.offset).take (P.cellsOf f0.type)) = some y0 ∧ DataW.trod enc P w base spare held n f1.type ((cs.drop f1.offset).take (P.cellsOf f1.type)) = some y1 ∧ DataW.trod enc P w base spare held n f2.type ((cs.drop f2.offset).take (P.cellsOf f2.type)) = some y2 ∧ DataW.trod enc P w base spare held n f3.type ((cs.drop f3.offset).take (P.cellsOf f3.type)) = some y3 ∧ DataW.trod enc P w base spare held n f4.type ((cs.drop f4.offset).take (P.cellsOf f4.type)) = some y4 := by
  obtain ⟨xs, n, _, rfl, hl, hlen, hf⟩ := DataW.trod_struct ht h
  match xs, hlen with
  | [y0, y1, y2, y3, y4], _ => exact ⟨y0, y1, y2, y3, y4, n, by simp, hl, by simpa using hf 0 f0 rfl, by simpa using hf 1 f1 rfl, by simpa using hf 2 f2 rfl, by simpa using hf 3 f3 rfl, by simpa using hf 4 f4 rfl⟩
theorem trod_s5_mk {t : TypeId} {f0 f1 f2 f3 f4 : Field} {n : Nat} {cs : List Value} {y0 y1 y2 y3 y4 : DataW H × List MemPlace} (ht : P.underlying t = some (.struct #[f0, f1, f2, f3, f4])) (hl : cs.length = P.cellsOf t)
    (h0 : DataW.trod enc P w base spare held n f0.type ((cs.drop f0.offset).take (P.cellsOf f0.type)) = some y0) (h1 : DataW.trod enc P w base spare held n f1.type ((cs.drop f1.offset).take (P.cellsOf f1.type)) = some y1) (h2 : DataW.trod enc P w base spare held n f2.type ((cs.drop f2.offset).take (P.cellsOf f2.type)) = some y2) (h3 : DataW.trod enc P w base spare held n f3.type ((cs.drop f3.offset).take (P.cellsOf f3.type)) = some y3) (h4 : DataW.trod enc P w base spare held n f4.type ((cs.drop f4.offset).take (P.cellsOf f4.type)) = some y4) :
    DataW.trod enc P w base spare held (n + 1) t cs = some (.agg [y0.1, y1.1, y2.1, y3.1, y4.1], y0.2 ++ (y1.2 ++ (y2.2 ++ (y3.2 ++ y4.2)))) := by
  have := trod_struct_mk (enc := enc) (w := w) (base := base) (spare := spare) (held := held) (n := n) (xs := [y0, y1, y2, y3, y4]) ht hl (by simp [h0, h1, h2, h3, h4])
  simpa using this
end
set_option maxRecDepth 100000 in
theorem open_mot {H : Type} {enc : TypeId × Value → H} {w : World} {base : Nat} {spare : Nat → Bool} {held : Bool} {r : Reach} {b0 : Nat} {a : Value} {d : DataW H} {p : List MemPlace} (hv : Value.okWide Try.prog w r b0 53 a) (h : DataW.Trod enc Try.prog w base spare held 53 a d p) :
    ∃ x y u v s : Int, a = .agg #[.int .i64 x, .int .i64 y, .int .i64 u, .int .i64 v, .int .i64 s] ∧ d = .agg [.lit (.int .i64 x), .lit (.int .i64 y), .lit (.int .i64 u), .lit (.int .i64 v), .lit (.int .i64 s)] ∧ p = [] ∧ (Lit.int .i64 x).wf = true ∧ (Lit.int .i64 y).wf = true ∧ (Lit.int .i64 u).wf = true ∧ (Lit.int .i64 v).wf = true ∧ (Lit.int .i64 s).wf = true := by
  obtain ⟨cs, rfl, hsz⟩ := okWide_struct Try.underlying53 hv
  obtain ⟨c0, c1, c2, c3, c4, rfl⟩ := arr5 (hsz.trans (show Try.prog.cellsOf 53 = 5 by kernel_rfl))
  obtain ⟨fuel, hf⟩ := h
  obtain ⟨y0, y1, y2, y3, y4, n, hx, _, h0, h1, h2, h3, h4⟩ := trod_s5 Try.underlying53 hf
  have k0 : Try.prog.cellsOf 2 = 1 := by kernel_rfl
  simp [Value.cells, k0] at h0 h1 h2 h3 h4
  obtain ⟨x, e0, rfl, w0⟩ := DataW.trod_int Try.underlying2 h0
  obtain ⟨y, e1, rfl, w1⟩ := DataW.trod_int Try.underlying2 h1
  obtain ⟨u, e2, rfl, w2⟩ := DataW.trod_int Try.underlying2 h2
  obtain ⟨v, e3, rfl, w3⟩ := DataW.trod_int Try.underlying2 h3
  obtain ⟨s, e4, rfl, w4⟩ := DataW.trod_int Try.underlying2 h4
  simp at e0 e1 e2 e3 e4
  subst e0 e1 e2 e3 e4
  simp only [Prod.mk.injEq] at hx
  exact ⟨x, y, u, v, s, rfl, hx.1, by rw [hx.2]; rfl, w0, w1, w2, w3, w4⟩
set_option maxRecDepth 100000 in
theorem shut_mot {H : Type} {enc : TypeId × Value → H} {w : World} {base : Nat} {spare : Nat → Bool} {held : Bool} {x y u v s : Int} (w0 : (Lit.int .i64 x).wf = true) (w1 : (Lit.int .i64 y).wf = true) (w2 : (Lit.int .i64 u).wf = true) (w3 : (Lit.int .i64 v).wf = true) (w4 : (Lit.int .i64 s).wf = true) :
    DataW.Trod enc Try.prog w base spare held 53 (.agg #[.int .i64 x, .int .i64 y, .int .i64 u, .int .i64 v, .int .i64 s]) (.agg [.lit (.int .i64 x), .lit (.int .i64 y), .lit (.int .i64 u), .lit (.int .i64 v), .lit (.int .i64 s)]) [] := by
  have k0 : Try.prog.cellsOf 2 = 1 := by kernel_rfl
  have k3 : Try.prog.cellsOf 53 = 5 := by kernel_rfl
  have i0 : ∀ (n : Nat) (x : Int), (Lit.int .i64 x).wf = true → DataW.trod enc Try.prog w base spare held (n + 1) 2 [.int .i64 x] = some (.lit (.int .i64 x), []) := fun n x hx => by simp [DataW.trod, Try.underlying2, hx]
  have s3 := trod_s5_mk (enc := enc) (w := w) (base := base) (spare := spare) (held := held) (n := 1) (cs := [.int .i64 x, .int .i64 y, .int .i64 u, .int .i64 v, .int .i64 s]) Try.underlying53 (by simp [k3]) (by simpa [k0] using i0 0 x w0) (by simpa [k0] using i0 0 y w1) (by simpa [k0] using i0 0 u w2) (by simpa [k0] using i0 0 v w3) (by simpa [k0] using i0 0 s w4)
  exact ⟨_, by simpa [Value.cells] using s3⟩
/-- what a walk is told of a slice of structs of five integers that came in: all of its cells, up to the capacity -/
def IsRow5 (w : World) (a : Option Addr) (len cap : Nat) (zs : List Int) : Prop :=
  (a = none ∧ len = 0 ∧ cap = 0 ∧ zs = []) ∨
  ∃ x, a = some x ∧ len ≤ cap ∧ cap ≤ maxLen ∧ zs.length = cap * 5 ∧ ∀ i, i < zs.length → w.cell? (x.add i) = some (.int .i64 (zs.getD i 0))
section
variable {H : Type} {enc : TypeId × Value → H} {P : Program} {w : World} {base : Nat}
theorem open_row5 {t e : TypeId} {f0 f1 f2 f3 f4 : Field} {fuel : Nat} {cs : List Value} {x : DataW H × List MemPlace} (ht : P.underlying t = some (.slice e)) (he : P.underlying e = some (.struct #[f0, f1, f2, f3, f4]))
    (h0 : P.underlying f0.type = some (.int .i64)) (h1 : P.underlying f1.type = some (.int .i64)) (h2 : P.underlying f2.type = some (.int .i64)) (h3 : P.underlying f3.type = some (.int .i64)) (h4 : P.underlying f4.type = some (.int .i64)) (hone : oneCellFields P #[f0, f1, f2, f3, f4] = true) (hC : P.cellsOf e = 5)
    (h : DataW.trod enc P w base (fun _ => true) true fuel t cs = some x) : ∃ (a : Option Addr) (len cap : Nat) (zs : List Int), cs = [.slice a len cap] ∧ IsRow5 w a len cap zs := by
  rcases open_slice ht h with ⟨rfl, _⟩ | ⟨a, len, cap, m, n, D, Pl, rfl, hb, hl, hm, hmm, hx, hi⟩
  · exact ⟨none, 0, 0, [], rfl, Or.inl ⟨rfl, rfl, rfl, rfl⟩⟩
  · obtain rfl : m = cap := by simpa using hmm
    have each : ∀ q, q < m * 5 → ∃ z : Int, w.cell? (a.add q) = some (.int .i64 z) := by
      intro q hq
      obtain ⟨cs', hc, htr⟩ := hi (q / 5) (by omega)
      rw [hC] at hc
      obtain ⟨_, hcl, hat⟩ := World.cells?_some hc
      obtain ⟨y0, y1, y2, y3, y4, n', _, _, t0, t1, t2, t3, t4⟩ := trod_s5 he htr
      obtain ⟨o0, k0⟩ := hone_of hone 0 f0 rfl
      rw [o0, k0] at t0
      obtain ⟨z0, e0, _, _⟩ := DataW.trod_int h0 t0
      obtain ⟨o1, k1⟩ := hone_of hone 1 f1 rfl
      rw [o1, k1] at t1
      obtain ⟨z1, e1, _, _⟩ := DataW.trod_int h1 t1
      obtain ⟨o2, k2⟩ := hone_of hone 2 f2 rfl
      rw [o2, k2] at t2
      obtain ⟨z2, e2, _, _⟩ := DataW.trod_int h2 t2
      obtain ⟨o3, k3⟩ := hone_of hone 3 f3 rfl
      rw [o3, k3] at t3
      obtain ⟨z3, e3, _, _⟩ := DataW.trod_int h3 t3
      obtain ⟨o4, k4⟩ := hone_of hone 4 f4 rfl
      rw [o4, k4] at t4
      obtain ⟨z4, e4, _, _⟩ := DataW.trod_int h4 t4
      match cs', hcl with
      | [c0, c1, c2, c3, c4], _ =>
        simp at e0 e1 e2 e3 e4
        subst e0 e1 e2 e3 e4
        rcases (by omega : q % 5 = 0 ∨ q % 5 = 1 ∨ q % 5 = 2 ∨ q % 5 = 3 ∨ q % 5 = 4) with hq2 | hq2 | hq2 | hq2 | hq2
        · have := hat 0 (by omega)
          rw [add_add, show q / 5 * 5 + 0 = q by omega] at this
          exact ⟨z0, this⟩
        · have := hat 1 (by omega)
          rw [add_add, show q / 5 * 5 + 1 = q by omega] at this
          exact ⟨z1, this⟩
        · have := hat 2 (by omega)
          rw [add_add, show q / 5 * 5 + 2 = q by omega] at this
          exact ⟨z2, this⟩
        · have := hat 3 (by omega)
          rw [add_add, show q / 5 * 5 + 3 = q by omega] at this
          exact ⟨z3, this⟩
        · have := hat 4 (by omega)
          rw [add_add, show q / 5 * 5 + 4 = q by omega] at this
          exact ⟨z4, this⟩
    obtain ⟨f, hf⟩ := choose_lt each
    refine ⟨some a, len, m, (List.range (m * 5)).map f, rfl, Or.inr ⟨a, rfl, hl, hm, by simp, fun i hi => ?_⟩⟩
    have hi' : i < m * 5 := by simpa using hi
    rw [hf i hi', List.getD_eq_getElem?_getD]
    simp [hi']
end
theorem Mts.of_row5 {w : World} {a : Option Addr} {len cap : Nat} {zs : List Int} (h : IsRow5 w a len cap zs) : len ≤ 9223372036854775807 ∧ len ≤ cap ∧ ∃ ms : List Mo, ms.length = len ∧ Mts w w.heap.size a ms := by
  rcases h with ⟨rfl, rfl, rfl, rfl⟩ | ⟨x, rfl, hl, hm, hz, hc⟩
  · exact ⟨by omega, by omega, [], rfl, fun h => by simp at h⟩
  · unfold maxLen at hm
    refine ⟨by omega, hl, (List.range len).map (fun j => (zs.getD (j * 5) 0, zs.getD (j * 5 + 1) 0, zs.getD (j * 5 + 2) 0, zs.getD (j * 5 + 3) 0, zs.getD (j * 5 + 4) 0)), by simp, fun hp => ?_⟩
    have hp' : 0 < len := by simpa using hp
    obtain ⟨b, off, rfl, hcell⟩ := ints_at hc (by omega)
    refine ⟨b, off, rfl, cell_lt (hcell 0 (by omega)), fun j hj => ?_⟩
    have hj' : j < len := by simpa using hj
    rw [List.getD_eq_getElem?_getD]
    simp only [List.getElem?_map, List.getElem?_range hj', Option.map_some, Option.getD_some]
    exact ⟨hcell (j * 5) (by omega), hcell (j * 5 + 1) (by omega), hcell (j * 5 + 2) (by omega), hcell (j * 5 + 3) (by omega), hcell (j * 5 + 4) (by omega)⟩
end Go.Proofs.Ytdkiikmmlfdlcaa
