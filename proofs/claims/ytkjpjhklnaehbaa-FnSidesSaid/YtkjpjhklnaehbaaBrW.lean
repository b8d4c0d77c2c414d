/- Facts behind the laws on bearings and tracks. -/
import Derived.Test.YtkjpjhklnaehbaaBrC
import Derived.Test.YtkjpjhklnaehbaaBrD
namespace Go.Proofs.Ytkjpjhklnaehbaa
open Go.ChangeShapes Go.WideShapes Go.ChangeAt Go.RowKit Num
set_option linter.unusedVariables false
theorem sd_facts {px py ux uy qx qy : Int} : (-1 ≤ sdV px py ux uy qx qy ∧ sdV px py ux uy qx qy ≤ 1) ∧ (sdC px py ux uy qx qy = 0 → (-1000 ≤ ux ∧ ux ≤ 1000 ∧ -1000 ≤ uy ∧ uy ≤ 1000)) := by
  unfold sdV sdC
  split
  · rename_i g
    rw [Bool.and_eq_true, Bool.and_eq_true] at g
    have := sg1_bd (crs ux uy (qx - px) (qy - py))
    exact ⟨by omega, fun _ => (brB_t g.1.2).1⟩
  · exact ⟨by omega, fun h => by cases h⟩
theorem cbV_bd (a b c d : Int) : -1 ≤ cbV a b c d ∧ cbV a b c d ≤ 1 := by
  unfold cbV
  split
  · split
    · exact sg1_bd _
    · rcases hlf_01 a b with e | e <;> rcases hlf_01 c d with g | g <;> rw [e, g] <;> omega
  · omega
theorem po_val {x y s t u : Int} (h : (poT x y s t u).2.2 = 0) : poT x y s t u = (x + u * s, y + u * t, 0) ∧ (0 ≤ u ∧ u ≤ 1000) ∧ tkB x y s t = true ∧ (-100000 ≤ x + u * s ∧ x + u * s ≤ 100000 ∧ -100000 ≤ y + u * t ∧ y + u * t ≤ 100000) := by
  unfold poT at h ⊢
  split at h
  · rename_i g1
    rw [if_pos g1]
    split at h
    · rename_i g2
      rw [if_pos g2]
      split at h
      · rename_i g3
        rw [if_pos g3]
        exact ⟨rfl, inB_t g2, g1, ptB_t g3⟩
      · cases h
    · cases h
  · cases h
/-- one time earlier -/
theorem po_before {x y s t u p q p2 q2 : Int} (h : poT x y s t u = (p, q, 0)) (g : poT x y s t (u - 1) = (p2, q2, 0)) : (p2 + s = p ∧ q2 + t = q) ∧ (-100000 ≤ p2 ∧ p2 ≤ 100000 ∧ -100000 ≤ q2 ∧ q2 ≤ 100000) ∧ (-1000 ≤ s ∧ s ≤ 1000 ∧ -1000 ≤ t ∧ t ≤ 1000) := by
  obtain ⟨e1, -, k1, -⟩ := po_val (by rw [h] : (poT x y s t u).2.2 = 0)
  obtain ⟨e2, -, -, b2⟩ := po_val (by rw [g] : (poT x y s t (u - 1)).2.2 = 0)
  rw [h] at e1
  rw [g] at e2
  simp only [Prod.mk.injEq, and_true] at e1 e2
  obtain ⟨rfl, rfl⟩ := e1
  obtain ⟨rfl, rfl⟩ := e2
  exact ⟨⟨by grind, by grind⟩, b2, (tkB_t k1).2⟩
theorem bd_facts {a1 a2 a3 a4 b1 b2 b3 b4 u : Int} (h : bdC a1 a2 a3 a4 b1 b2 b3 b4 u = 0) :
    (bdC a1 a2 a3 a4 b1 b2 b3 b4 0 = 0 ∧ bdR a1 a2 a3 a4 b1 b2 b3 b4 0 = bdR a1 a2 a3 a4 b1 b2 b3 b4 u) ∧ (bdC b1 b2 b3 b4 a1 a2 a3 a4 u = 0 ∧ bdR b1 b2 b3 b4 a1 a2 a3 a4 u = bdR a1 a2 a3 a4 b1 b2 b3 b4 u) := by
  have hok : okT a1 a2 a3 a4 b1 b2 b3 b4 = true := by
    unfold bdC at h
    split at h
    · assumption
    · cases h
  have hok2 : okT b1 b2 b3 b4 a1 a2 a3 a4 = true := by
    unfold okT at hok ⊢
    rw [Bool.and_comm]; exact hok
  have hu : inB u 0 1000 = true := by
    unfold bdC at h
    rw [hok, if_pos rfl] at h
    split at h
    · assumption
    · cases h
  have e0 : bdC a1 a2 a3 a4 b1 b2 b3 b4 0 = 0 := by unfold bdC; rw [hok]; rfl
  have e2 : bdC b1 b2 b3 b4 a1 a2 a3 a4 u = 0 := by unfold bdC; rw [hok2, hu]; rfl
  have f := bdV_t (b1 - a1) (b2 - a2) (b3 - a3) (b4 - a4) u
  refine ⟨⟨e0, ?_⟩, e2, ?_⟩
  · unfold bdR
    rw [e0, h, if_pos rfl, if_pos rfl]
    exact f.1
  · unfold bdR
    rw [e2, h, if_pos rfl, if_pos rfl, show a1 - b1 = -(b1 - a1) by omega, show a2 - b2 = -(b2 - a2) by omega, show a3 - b3 = -(b3 - a3) by omega, show a4 - b4 = -(b4 - a4) by omega]
    exact f.2
theorem wrap_k (x : Int) : ∃ k : Int, IntKind.wrap .i64 x = x + k * 18446744073709551616 ∧ -9223372036854775808 ≤ IntKind.wrap .i64 x ∧ IntKind.wrap .i64 x ≤ 9223372036854775807 := by
  have hw : IntKind.wrap .i64 x = (x + 9223372036854775808) % 18446744073709551616 - 9223372036854775808 := by
    simp only [IntKind.wrap_i64]
  refine ⟨-((x + 9223372036854775808) / 18446744073709551616), ?_, ?_, ?_⟩ <;> rw [hw] <;> omega
/-- a point of a line, told by wrapped products -/
theorem on_line {ux uy px py p q r t A1 A2 A3 A4 A5 B1 B2 B3 B4 B5 : Int} (h : ux * (r * q - py * q * t) - uy * (p * t - px * q * t) = 0)
    (e1 : IntKind.wrap .i64 (r * q) = A1) (e2 : IntKind.wrap .i64 (py * q) = A2) (e3 : IntKind.wrap .i64 (A2 * t) = A3) (e4 : IntKind.wrap .i64 (A1 - A3) = A4) (e5 : IntKind.wrap .i64 (ux * A4) = A5)
    (f1 : IntKind.wrap .i64 (p * t) = B1) (f2 : IntKind.wrap .i64 (px * q) = B2) (f3 : IntKind.wrap .i64 (B2 * t) = B3) (f4 : IntKind.wrap .i64 (B1 - B3) = B4) (f5 : IntKind.wrap .i64 (uy * B4) = B5) :
    IntKind.wrap .i64 (A5 - B5) = 0 := by
  obtain ⟨k1, h1, -⟩ := wrap_k (r * q)
  obtain ⟨k2, h2, -⟩ := wrap_k (py * q)
  obtain ⟨k3, h3, -⟩ := wrap_k (A2 * t)
  obtain ⟨k4, h4, -⟩ := wrap_k (A1 - A3)
  obtain ⟨k5, h5, -⟩ := wrap_k (ux * A4)
  obtain ⟨l1, g1, -⟩ := wrap_k (p * t)
  obtain ⟨l2, g2, -⟩ := wrap_k (px * q)
  obtain ⟨l3, g3, -⟩ := wrap_k (B2 * t)
  obtain ⟨l4, g4, -⟩ := wrap_k (B1 - B3)
  obtain ⟨l5, g5, -⟩ := wrap_k (uy * B4)
  obtain ⟨m, h6, b1, b2⟩ := wrap_k (A5 - B5)
  rw [e1] at h1
  rw [e2] at h2
  rw [e3] at h3
  rw [e4] at h4
  rw [e5] at h5
  rw [f1] at g1
  rw [f2] at g2
  rw [f3] at g3
  rw [f4] at g4
  rw [f5] at g5
  obtain ⟨M, hM⟩ : ∃ M, IntKind.wrap .i64 (A5 - B5) = M * 18446744073709551616 := by
    refine ⟨ux * (k1 - (k2 * t + k3) + k4) + k5 - (uy * (l1 - (l2 * t + l3) + l4) + l5) + m, ?_⟩
    rw [h6]
    clear e1 e2 e3 e4 e5 f1 f2 f3 f4 f5 b1 b2 h6
    subst h1 h2 h3 h4 h5 g1 g2 g3 g4 g5
    grind
  omega
/-- the least square of two tracks and their positions at one time -/
theorem meet_least {a1 a2 a3 a4 b1 b2 b3 b4 p q d x1 y1 x2 y2 : Int} (h : csR a1 a2 a3 a4 b1 b2 b3 b4 = (p, q, 0)) (h1 : poT a1 a2 a3 a4 d = (x1, y1, 0)) (h2 : poT b1 b2 b3 b4 d = (x2, y2, 0)) :
    p ≤ ((x1 - x2) * (x1 - x2) + (y1 - y2) * (y1 - y2)) * q ∧ (-200000 ≤ x1 - x2 ∧ x1 - x2 ≤ 200000 ∧ -200000 ≤ y1 - y2 ∧ y1 - y2 ≤ 200000) ∧ (1 ≤ q ∧ q ≤ 8000000) := by
  have hok : okT a1 a2 a3 a4 b1 b2 b3 b4 = true := by
    cases e : okT a1 a2 a3 a4 b1 b2 b3 b4
    · unfold csR at h; rw [e] at h; cases h
    · rfl
  obtain ⟨e1, u1, k1, c1⟩ := po_val (by rw [h1] : (poT a1 a2 a3 a4 d).2.2 = 0)
  obtain ⟨e2, -, k2, c2⟩ := po_val (by rw [h2] : (poT b1 b2 b3 b4 d).2.2 = 0)
  rw [h1] at e1
  rw [h2] at e2
  simp only [Prod.mk.injEq, and_true] at e1 e2
  obtain ⟨rfl, rfl⟩ := e1
  obtain ⟨rfl, rfl⟩ := e2
  have hs := (okT_t hok).2.2
  have e : csR a1 a2 a3 a4 b1 b2 b3 b4 = rlT (lsN (b1 - a1) (b2 - a2) (b3 - a3) (b4 - a4)) (lsD (b1 - a1) (b2 - a2) (b3 - a3) (b4 - a4)) := by unfold csR; rw [hok]; rfl
  rw [h] at e
  have f := cs_facts (rx := b1 - a1) (ry := b2 - a2) (wx := b3 - a3) (wy := b4 - a4) (by rw [← e])
  rw [← e] at f
  obtain ⟨-, -, g1, g2⟩ := f
  have g := g2 d u1.1
  dsimp only at g g1
  refine ⟨?_, by omega, by have := hs.ls; omega⟩
  have e3 : (a1 + d * a3 - (b1 + d * b3)) * (a1 + d * a3 - (b1 + d * b3)) + (a2 + d * a4 - (b2 + d * b4)) * (a2 + d * a4 - (b2 + d * b4)) = (b1 - a1 + d * (b3 - a3)) * (b1 - a1 + d * (b3 - a3)) + (b2 - a2 + d * (b4 - a4)) * (b2 - a2 + d * (b4 - a4)) := by grind
  rw [e3]
  exact g
theorem meet_zero {a1 a2 a3 a4 b1 b2 b3 b4 p q : Int} (h : csR a1 a2 a3 a4 b1 b2 b3 b4 = (p, q, 0)) : dmB a1 a2 a3 a4 b1 b2 b3 b4 = (p == 0) := by
  have hok : okT a1 a2 a3 a4 b1 b2 b3 b4 = true := by
    cases e : okT a1 a2 a3 a4 b1 b2 b3 b4
    · unfold csR at h; rw [e] at h; cases h
    · rfl
  have e : csR a1 a2 a3 a4 b1 b2 b3 b4 = rlT (lsN (b1 - a1) (b2 - a2) (b3 - a3) (b4 - a4)) (lsD (b1 - a1) (b2 - a2) (b3 - a3) (b4 - a4)) := by unfold csR; rw [hok]; rfl
  rw [h] at e
  have f := (cs_facts (rx := b1 - a1) (ry := b2 - a2) (wx := b3 - a3) (wy := b4 - a4) (by rw [← e])).1
  rw [← e] at f
  unfold dmB
  rw [hok, if_pos rfl]
  exact f.symm
theorem ct_nn {a1 a2 a3 a4 b1 b2 b3 b4 u v : Int} (h : ctR a1 a2 a3 a4 b1 b2 b3 b4 = (u, v, 0)) : 0 ≤ u := by
  unfold ctR at h
  split at h
  · have := ctT_nn (rx := b1 - a1) (ry := b2 - a2) (wx := b3 - a3) (wy := b4 - a4) (by rw [h])
    rw [h] at this
    exact this
  · cases h
end Go.Proofs.Ytkjpjhklnaehbaa
