/- The directions of a fan: each lies between the ends, and they become steeper. Plain facts. -/
import Derived.Test.YtaaklnabomhleaaFanB
namespace Go.Proofs.Ytaaklnabomhleaa
open Num
set_option linter.unusedVariables false
theorem mnB_mk {m n : Int} (h1 : 1 ≤ m) (h2 : m < n) (h3 : n ≤ 1000) (h4 : n * n + m * m ≤ 1000) : mnB m n = true := by
  unfold mnB
  simp only [Bool.and_eq_true, decide_eq_true_eq]
  exact ⟨⟨⟨h1, h2⟩, h3⟩, h4⟩
/-- all numbers of a fan make directions -/
theorem fan_mn {n lo hi : Int} (h : fanB n lo hi = true) {j : Nat} (hj : lo + (j : Int) ≤ hi) : mnB (lo + (j : Int)) n = true := by
  obtain ⟨h1, h2, h3, h4, h5⟩ := fanB_t h
  refine mnB_mk (by omega) (by omega) h4 ?_
  have := Int.mul_le_mul hj hj (by omega) (by omega)
  omega
theorem steep_le {m k n : Int} (h : mnB m n = true) (g : mnB k n = true) (hmk : m ≤ k) : mc k n * mh m n ≤ mc m n * mh k n := by
  obtain ⟨p1, p2, p3, p4, p5, p6⟩ := mn_pos h
  obtain ⟨q1, q2, q3, q4, q5, q6⟩ := mn_pos g
  have hg : 0 < mg m n := g3_pos (by omega)
  have hk : 0 < mg k n := g3_pos (by omega)
  have e1 : mg m n * mc m n = n * n - m * m := lw_mul (g3_1 _ _ _)
  have e3 : mg m n * mh m n = n * n + m * m := lw_mul (g3_3 _ _ _)
  have f1 : mg k n * mc k n = n * n - k * k := lw_mul (g3_1 _ _ _)
  have f3 : mg k n * mh k n = n * n + k * k := lw_mul (g3_3 _ _ _)
  refine Int.le_of_mul_le_mul_left ?_ (Int.mul_pos hg hk)
  have a1 : mg m n * mg k n * (mc k n * mh m n) = (n * n - k * k) * (n * n + m * m) := by
    rw [← f1, ← e3]; simp only [Int.mul_assoc, Int.mul_left_comm, Int.mul_comm]
  have a2 : mg m n * mg k n * (mc m n * mh k n) = (n * n - m * m) * (n * n + k * k) := by
    rw [← e1, ← f3]; simp only [Int.mul_assoc, Int.mul_left_comm, Int.mul_comm]
  rw [a1, a2]
  have hm : m * m ≤ k * k := Int.mul_le_mul hmk hmk (by have := (mnB_t h).1; omega) (by have := (mnB_t g).1; omega)
  obtain ⟨N, hN⟩ : ∃ a, n * n = a := ⟨_, rfl⟩
  obtain ⟨a, ha⟩ : ∃ a, m * m = a := ⟨_, rfl⟩
  obtain ⟨b, hb⟩ : ∃ b, k * k = b := ⟨_, rfl⟩
  rw [hN, ha, hb]
  rw [ha, hb] at hm
  have hNp : 0 ≤ N := by omega
  have := Int.mul_le_mul_of_nonneg_left hm hNp
  rw [Int.sub_mul, Int.mul_add, Int.mul_add, Int.sub_mul, Int.mul_add, Int.mul_add, Int.mul_comm b N, Int.mul_comm b a, Int.mul_comm a N]
  omega
theorem dirJ_eq {n lo : Int} {d : Bool} {j : Nat} (h : mnB (lo + (j : Int)) n = true) : dirJ n lo d j = (mc (lo + (j : Int)) n, if d then ms (lo + (j : Int)) n else -(ms (lo + (j : Int)) n), mh (lo + (j : Int)) n) := by
  unfold dirJ mdT
  rw [if_pos h]
theorem ms_pos {m n : Int} (h : mnB m n = true) : 0 < ms m n := by
  obtain ⟨p1, p2, p3, p4, p5, p6⟩ := mn_pos h
  exact lw_pos (g3_pos (by omega)) p2 (g3_2 _ _ _)
theorem made_dir {m n : Int} (h : mnB m n = true) (d : Bool) : dirB (mc m n) (if d then ms m n else -(ms m n)) (mh m n) = true := by
  cases d
  · exact (mn_ok h).mir.b
  · exact (mn_ok h).b
theorem made_sgn {m n : Int} (h : mnB m n = true) (d : Bool) : decide (0 < (if d then ms m n else -(ms m n))) = d := by
  have := ms_pos h
  cases d
  · exact decide_eq_false (by simp; omega)
  · exact decide_eq_true (by simpa using this)
/-- between the ends -/
theorem fan_lb {n lo hi : Int} {d : Bool} (h : fanB n lo hi = true) {i j k : Nat} (hij : i ≤ j) (hjk : j ≤ k) (hk : lo + (k : Int) ≤ hi) {c s h' x y z u v t : Int} (e1 : dirJ n lo d i = (c, s, h')) (e2 : dirJ n lo d k = (x, y, z)) (e3 : dirJ n lo d j = (u, v, t)) : lbB c s h' x y z u v t = true := by
  have m1 := fan_mn h (j := i) (by omega)
  have m2 := fan_mn h (j := k) hk
  have m3 := fan_mn h (j := j) (by omega)
  rw [dirJ_eq m1] at e1
  rw [dirJ_eq m2] at e2
  rw [dirJ_eq m3] at e3
  simp only [Prod.mk.injEq] at e1 e2 e3
  obtain ⟨rfl, rfl, rfl⟩ := e1
  obtain ⟨rfl, rfl, rfl⟩ := e2
  obtain ⟨rfl, rfl, rfl⟩ := e3
  have s1 := steep_le m1 m3 (by omega)
  have s2 := steep_le m3 m2 (by omega)
  unfold lbB
  rw [made_dir m1, made_dir m2, made_dir m3, made_sgn m1, made_sgn m2, made_sgn m3]
  have g1 : 0 ≤ sgn (mc (lo + (i : Int)) n * mh (lo + (j : Int)) n) (mc (lo + (j : Int)) n * mh (lo + (i : Int)) n) := by
    unfold sgn
    rw [if_neg (by omega)]
    split <;> omega
  have g2 : sgn (mc (lo + (k : Int)) n * mh (lo + (j : Int)) n) (mc (lo + (j : Int)) n * mh (lo + (k : Int)) n) ≤ 0 := by
    unfold sgn
    split
    · omega
    · rw [if_neg (by omega)]; omega
  have g3 := Int.mul_nonneg g1 (show 0 ≤ -(sgn (mc (lo + (k : Int)) n * mh (lo + (j : Int)) n) (mc (lo + (j : Int)) n * mh (lo + (k : Int)) n)) by omega)
  rw [Int.mul_neg] at g3
  rw [decide_eq_true (show _ ≤ (0 : Int) by omega)]
  cases d <;> rfl
/-- steeper and steeper -/
theorem fan_cmp {n lo hi : Int} {d : Bool} (h : fanB n lo hi = true) {j : Nat} (hj : lo + ((j + 1 : Nat) : Int) ≤ hi) {c s h' x y z : Int} (e1 : dirJ n lo d j = (c, s, h')) (e2 : dirJ n lo d (j + 1) = (x, y, z)) : cdV c s h' x y z = 1 ∧ cdC c s h' x y z = 0 := by
  have m1 := fan_mn h (j := j) (by omega)
  have m2 := fan_mn h hj
  rw [dirJ_eq m1] at e1
  rw [dirJ_eq m2] at e2
  simp only [Prod.mk.injEq] at e1 e2
  obtain ⟨rfl, rfl, rfl⟩ := e1
  obtain ⟨rfl, rfl, rfl⟩ := e2
  obtain ⟨g1, g2⟩ := cd_ok (show (dirB (mc (lo + (j : Int)) n) (if d then ms (lo + (j : Int)) n else -(ms (lo + (j : Int)) n)) (mh (lo + (j : Int)) n) && dirB (mc (lo + ((j + 1 : Nat) : Int)) n) (if d then ms (lo + ((j + 1 : Nat) : Int)) n else -(ms (lo + ((j + 1 : Nat) : Int)) n)) (mh (lo + ((j + 1 : Nat) : Int)) n)) = true from by rw [made_dir m1, made_dir m2]; rfl)
  rw [g1, g2]
  refine ⟨?_, rfl⟩
  have e : lo + ((j + 1 : Nat) : Int) = lo + (j : Int) + 1 := by omega
  have st := made_steeper m1 (by rw [← e]; exact m2)
  rw [e]
  unfold sgn
  rw [if_neg (by omega), if_pos (by omega)]
/-- the ends may be exchanged -/
theorem lb_swap (c s h x y z u v t : Int) : lbB x y z c s h u v t = lbB c s h x y z u v t := by
  unfold lbB
  rw [Int.mul_comm (sgn (x * t) (u * z))]
  generalize decide (sgn (c * t) (u * h) * sgn (x * t) (u * z) ≤ 0) = k
  generalize decide (0 < s) = d1
  generalize decide (0 < y) = d2
  generalize decide (0 < v) = d3
  cases dirB c s h <;> cases dirB x y z <;> cases dirB u v t <;> cases d1 <;> cases d2 <;> cases d3 <;> rfl
theorem fanK_getD {n lo : Int} {d : Bool} {N j : Nat} (hj : j < N) : (fanK n lo d N).getD j (0, 0, 0) = dirJ n lo d j := by
  unfold fanK
  rw [List.getD_eq_getElem?_getD, List.getElem?_map, List.getElem?_range hj]
  rfl
end Go.Proofs.Ytaaklnabomhleaa
