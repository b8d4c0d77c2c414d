/-
For every four points, valid or not, CrossFix answers as its model does, in all three results; the arguments read on as they did. No condition.
-/
import Derived.Test.YtkjpjhklnaehbaaRows
import Derived.Test.YtkjpjhklnaehbaaBrN
import Derived.WalkKit
import Derived.ProofKit
import Derived.OpenShut
import Derived.ShutString
import Derived.ChangeOld
import Derived.Below
import Derived.Lib.SmallJoins
namespace Go.Proofs.Ytkjpjhklnaehbaa.fnExactCrossFix
open Go.ChangeShapes Go.WideShapes Go.ChangeAt Go.RowKit
open Go.ChangeMaps (open_string shut_string)
set_option linter.unusedVariables false
theorem own : ownKnob Try.prog.godebug = none := by kernel_rfl
theorem laidOut : laidOutB Try.prog = true := by kernel_rfl
set_option maxRecDepth 100000 in
theorem lifted (os : Os) (started : os.Started) (H : Type) (enc : TypeId × Value → H) :
    ReturnsInHanded {} Try.checked os 6 .any (Rows.fnExactCrossFixSpec.pre6 enc Try.prog Try.f6 Rows.fnExactCrossFixRow.domain false) (Rows.fnExactCrossFixSpec.post enc Try.prog Try.f6 false true false false) := by
  refine returnsInHanded_of_change (C := Try.checked) own started (by kernel_rfl) Try.func6
    (ChangeSpec.witness6 (enc := enc) (C := Try.checked) false ⟨#[], #[.agg #[.int .i64 0, .int .i64 0], .agg #[.int .i64 0, .int .i64 0], .agg #[.int .i64 0, .int .i64 0], .agg #[.int .i64 0, .int .i64 0]], []⟩ 8 (by kernel_rfl) (by kernel_rfl) (by kernel_rfl) (by kernel_rfl)) ?_
  intro W base args ds gs before hval0 hW hcnd _
  have hval : ∀ (j : Nat) t v, Try.f6.params[j]? = some t → args[j]? = some v → Value.okWide Try.prog W .any base t v := hval0
  have hW' := hW
  obtain ⟨p, q, hA0, hV, rfl, hfz, hnd⟩ := hW
  have hA : DataW.TrodAll enc Try.prog W 0 (fun _ => true) true Try.f6.params.toList args.toList ds p := hA0
  rw [Try.params6] at hA hval
  obtain ⟨v0, vs0, d0, ds0, p0, q0, hargs, rfl, rfl, h0, r0⟩ := trodAll_cons hA
  obtain ⟨v1, vs1, d1, ds1, p1, q1, rfl, rfl, rfl, h1, r1⟩ := trodAll_cons r0
  obtain ⟨v2, vs2, d2, ds2, p2, q2, rfl, rfl, rfl, h2, r2⟩ := trodAll_cons r1
  obtain ⟨v3, vs3, d3, ds3, p3, q3, rfl, rfl, rfl, h3, r3⟩ := trodAll_cons r2
  obtain ⟨rfl, rfl, rfl⟩ := trodAll_nil r3
  obtain rfl : args = #[v0, v1, v2, v3] := by cases args; simp_all
  obtain ⟨rfl, rfl⟩ := trodVars_none hV
  obtain ⟨c00, c01, y00, y01, m0, rfl, rfl, rfl, hy00, hy01⟩ := Go.Joins.open_agg2 Try.underlying23 (by kernel_rfl) (by kernel_rfl) (hval 0 23 v0 rfl rfl) h0
  obtain ⟨a0x, e00, rfl, w0x⟩ := DataW.trod_int Try.underlying2 hy00
  simp at e00
  subst e00
  obtain ⟨a0y, e01, rfl, w0y⟩ := DataW.trod_int Try.underlying2 hy01
  simp at e01
  subst e01
  obtain ⟨c10, c11, y10, y11, m1, rfl, rfl, rfl, hy10, hy11⟩ := Go.Joins.open_agg2 Try.underlying23 (by kernel_rfl) (by kernel_rfl) (hval 1 23 v1 rfl rfl) h1
  obtain ⟨a1x, e10, rfl, w1x⟩ := DataW.trod_int Try.underlying2 hy10
  simp at e10
  subst e10
  obtain ⟨a1y, e11, rfl, w1y⟩ := DataW.trod_int Try.underlying2 hy11
  simp at e11
  subst e11
  obtain ⟨c20, c21, y20, y21, m2, rfl, rfl, rfl, hy20, hy21⟩ := Go.Joins.open_agg2 Try.underlying23 (by kernel_rfl) (by kernel_rfl) (hval 2 23 v2 rfl rfl) h2
  obtain ⟨a2x, e20, rfl, w2x⟩ := DataW.trod_int Try.underlying2 hy20
  simp at e20
  subst e20
  obtain ⟨a2y, e21, rfl, w2y⟩ := DataW.trod_int Try.underlying2 hy21
  simp at e21
  subst e21
  obtain ⟨c30, c31, y30, y31, m3, rfl, rfl, rfl, hy30, hy31⟩ := Go.Joins.open_agg2 Try.underlying23 (by kernel_rfl) (by kernel_rfl) (hval 3 23 v3 rfl rfl) h3
  obtain ⟨a3x, e30, rfl, w3x⟩ := DataW.trod_int Try.underlying2 hy30
  simp at e30
  subst e30
  obtain ⟨a3y, e31, rfl, w3y⟩ := DataW.trod_int Try.underlying2 hy31
  simp at e31
  subst e31
  clear hA0 hval0
  try simp only [List.append_nil] at hW'
  try simp only [List.nil_append] at hW'
  have hs0 : ∀ (W2 : World) (sp2 : Nat → Bool), DataW.Trod enc Try.prog W2 0 sp2 true 23 (.agg #[.int .i64 a0x, .int .i64 a0y]) (.agg [.lit (.int .i64 a0x), .lit (.int .i64 a0y)]) [] := fun W2 sp2 =>
    Go.Joins.shut_agg2 (y0 := (.lit (.int .i64 a0x), [])) (y1 := (.lit (.int .i64 a0y), [])) Try.underlying23 (by kernel_rfl) (by kernel_rfl) ⟨1, by simp [DataW.trod, Try.underlying2, w0x]⟩ ⟨1, by simp [DataW.trod, Try.underlying2, w0y]⟩
  have hs1 : ∀ (W2 : World) (sp2 : Nat → Bool), DataW.Trod enc Try.prog W2 0 sp2 true 23 (.agg #[.int .i64 a1x, .int .i64 a1y]) (.agg [.lit (.int .i64 a1x), .lit (.int .i64 a1y)]) [] := fun W2 sp2 =>
    Go.Joins.shut_agg2 (y0 := (.lit (.int .i64 a1x), [])) (y1 := (.lit (.int .i64 a1y), [])) Try.underlying23 (by kernel_rfl) (by kernel_rfl) ⟨1, by simp [DataW.trod, Try.underlying2, w1x]⟩ ⟨1, by simp [DataW.trod, Try.underlying2, w1y]⟩
  have hs2 : ∀ (W2 : World) (sp2 : Nat → Bool), DataW.Trod enc Try.prog W2 0 sp2 true 23 (.agg #[.int .i64 a2x, .int .i64 a2y]) (.agg [.lit (.int .i64 a2x), .lit (.int .i64 a2y)]) [] := fun W2 sp2 =>
    Go.Joins.shut_agg2 (y0 := (.lit (.int .i64 a2x), [])) (y1 := (.lit (.int .i64 a2y), [])) Try.underlying23 (by kernel_rfl) (by kernel_rfl) ⟨1, by simp [DataW.trod, Try.underlying2, w2x]⟩ ⟨1, by simp [DataW.trod, Try.underlying2, w2y]⟩
  have hs3 : ∀ (W2 : World) (sp2 : Nat → Bool), DataW.Trod enc Try.prog W2 0 sp2 true 23 (.agg #[.int .i64 a3x, .int .i64 a3y]) (.agg [.lit (.int .i64 a3x), .lit (.int .i64 a3y)]) [] := fun W2 sp2 =>
    Go.Joins.shut_agg2 (y0 := (.lit (.int .i64 a3x), [])) (y1 := (.lit (.int .i64 a3y), [])) Try.underlying23 (by kernel_rfl) (by kernel_rfl) ⟨1, by simp [DataW.trod, Try.underlying2, w3x]⟩ ⟨1, by simp [DataW.trod, Try.underlying2, w3y]⟩
  refine (@lcfx a0x a0y a1x a1y a2x a2y a3x a3y  W).mono fun e W' ⟨he, bel⟩ => ?_
  subst he
  exact ⟨_, rfl, _, _, _, [], _, [], hW', trodAll_mk1 (shut_bool Try.underlying4 _), (trodAll_cons_mk (hs0 _ _) (trodAll_cons_mk (hs1 _ _) (trodAll_cons_mk (hs2 _ _) (trodAll_cons_mk (hs3 _ _) trodAll_mk0)))), rfl, bel.frame _, fun h => by cases h⟩

set_option maxHeartbeats 4000000 in
theorem said : Rows.FnExactCrossFixSaid :=
  OpenClaim.holds_of_wide 6 Try.f6 rfl rfl rfl rfl rfl rfl rfl ⟨rfl, rfl, rfl, rfl, rfl⟩ rfl rfl rfl rfl rfl (by as_aux_lemma => kernel_rfl) Try.func6 (by as_aux_lemma => kernel_rfl)
    (by as_aux_lemma => exact of_decide_eq_true (by kernel_rfl)) (by unfold Func.isWrapper; first | (rw [if_pos (by decide +kernel)]; kernel_rfl) | (rw [if_neg (by decide +kernel)]; exact ⟨rfl, rfl⟩))
    (fun os started H enc _ => lifted os started H enc)

theorem proved : Rows.FnExactCrossFixSaid := said
#print axioms proved
end Go.Proofs.Ytkjpjhklnaehbaa.fnExactCrossFix
