/- Contracts of the sum, the product, the mediant, the inverse of fractions, of made and compared ones and of bounds of multiples, the program's and the model's. -/
import Derived.Test.YtkbgbhbnkffneaaRat
import Derived.Test.YtkbgbhbnkffneaaScal
namespace Go.Proofs.Ytkbgbhbnkffneaa
open Go.ChangeShapes Go.WideShapes Go.ChangeAt Go.RowKit Num
set_option linter.unusedVariables false
theorem kp1 {W w2 : World} {m o : Nat} {v0 : Value} (c0 : W.cell? ⟨m, o, none⟩ = some v0) (h : Below W.heap.size W w2) : w2.cell? ⟨m, o, none⟩ = some v0 := (h.cell (p := ⟨m, o, none⟩) (World.block_lt_of_cell? W _ c0)).trans c0
theorem kp_fr {W w2 : World} {m o : Nat} {v0 : Value} {b : Bool} (f0 : W.frozen? ⟨m, o, none⟩ = b) (c0 : W.cell? ⟨m, o, none⟩ = some v0) (h : Below W.heap.size W w2) : w2.frozen? ⟨m, o, none⟩ = b := (h.frozen (p := ⟨m, o, none⟩) (World.block_lt_of_cell? W _ c0)).trans f0
theorem irt_is {a b : Int} {r : Bool} (h : ratB a b = r) (w : World) :
    Calls Try.prog 37 #[.agg #[.int .i64 a, .int .i64 b]] w fun e w' => e = .returned (.bool r) ∧ Below w.heap.size w w' := by subst h; exact irt_any a b w
theorem srt_is {a b : Int} {r : Bool} (h : ratB a b = r) (w : World) :
    Calls Try.prog 38 #[.agg #[.int .i64 a, .int .i64 b]] w fun e w' => e = .returned (.bool r) ∧ Below w.heap.size w w' := by subst h; exact srt_any a b w
theorem rof_is {n d : Int} {U : Int × Int × Int} (hU : mkT n d = U) (n1 : -9000000000000000000 ≤ n) (n2 : n ≤ 9000000000000000000) (d1 : -9000000000000000000 ≤ d) (d2 : d ≤ 9000000000000000000) (h0 : ¬ d = 0) (w : World) :
    Calls Try.prog 70 #[.int .i64 n, .int .i64 d] w fun e w' => e = .returned (.tuple #[.agg #[.int .i64 U.1, .int .i64 U.2.1], .int .i64 U.2.2]) ∧ Below w.heap.size w w' := by subst hU; exact rof_any n d n1 n2 d1 d2 h0 w
theorem lmk_is {n d : Int} {U : Int × Int × Int} (hU : mkT n d = U) (n1 : -9000000000000000000 ≤ n) (n2 : n ≤ 9000000000000000000) (d1 : -9000000000000000000 ≤ d) (d2 : d ≤ 9000000000000000000) (h0 : ¬ d = 0) (w : World) :
    Calls Try.prog 71 #[.int .i64 n, .int .i64 d] w fun e w' => e = .returned (.tuple #[.agg #[.int .i64 U.1, .int .i64 U.2.1], .int .i64 U.2.2]) ∧ Below w.heap.size w w' := by subst hU; exact lmk_any n d n1 n2 d1 d2 h0 w

set_option maxHeartbeats 2000000 in
theorem iad_any (a b c d : Int) (w : World) :
    Calls Try.prog 42 #[.agg #[.int .i64 a, .int .i64 b], .agg #[.int .i64 c, .int .i64 d]] w fun e w' => e = .returned (.tuple #[.agg #[.int .i64 (addT a b c d).1, .int .i64 (addT a b c d).2.1], .int .i64 (addT a b c d).2.2]) ∧ Below w.heap.size w w' := by
  cases ha : ratB a b
  · have HT : Hid (addT a b c d = (0, 0, 1)) := Lib.hid (by unfold addT; rw [ha]; rfl)
    have HA := Lib.hid ha
    clear ha
    go_enter Try.func42, Try.ntmps42
    go_wp2_with fail
    obtain ⟨W, hW⟩ : ∃ W, W = (((w.alloc (.cells #[.int .i64 a, .int .i64 b] 42)).alloc (.cells #[.int .i64 c, .int .i64 d] 42)).alloc (.cells #[.int .i64 0, .int .i64 0] 42)) := ⟨_, rfl⟩
    have c0 : W.cell? ⟨w.heap.size, 0, none⟩ = some (.int .i64 a) := by rw [hW]; simp [go_sem]
    have c1 : W.cell? ⟨w.heap.size, 1, none⟩ = some (.int .i64 b) := by rw [hW]; simp [go_sem]
    have c2 : W.cell? ⟨w.heap.size + 1, 0, none⟩ = some (.int .i64 c) := by rw [hW]; simp [go_sem]
    have c3 : W.cell? ⟨w.heap.size + 1, 1, none⟩ = some (.int .i64 d) := by rw [hW]; simp [go_sem]
    have c4 : W.cell? ⟨w.heap.size + 2, 0, none⟩ = some (.int .i64 0) := by rw [hW]; simp [go_sem]
    have c5 : W.cell? ⟨w.heap.size + 2, 1, none⟩ = some (.int .i64 0) := by rw [hW]; simp [go_sem]
    have f0 : W.frozen? ⟨w.heap.size + 2, 0, none⟩ = false := by rw [hW]; simp [go_sem]
    have f1 : W.frozen? ⟨w.heap.size + 2, 1, none⟩ = false := by rw [hW]; simp [go_sem]
    have HB : Hid (Below w.heap.size w W) := Lib.hid (by rw [hW]; exact (by repeat (first | exact Below.refl _ _ | (refine Below.alloc ?_ (by simp <;> omega) _) | (refine Below.setCell ?_ (by simp <;> omega) _) | (refine Below.drew ?_) | (refine bel_drewN ?_ _))))
    have hlt : w.heap.size ≤ W.heap.size := HB.out.size
    rw [← hW]
    clear hW
    refine (irt_is HA.out _).mono ?_
    rintro e w1 ⟨rfl, hb⟩
    replace f0 := kp_fr f0 c4 hb
    replace f1 := kp_fr f1 c5 hb
    replace c0 := kp1 c0 hb
    replace c1 := kp1 c1 hb
    replace c2 := kp1 c2 hb
    replace c3 := kp1 c3 hb
    replace c4 := kp1 c4 hb
    replace c5 := kp1 c5 hb
    replace HB := Lib.hid (bel_end HB.out hb)
    clear hb
    go_wp2
    exact bodyPost_ret (v := .tuple #[.agg #[.int .i64 0, .int .i64 0], .int .i64 1]) (by simp [results, Try.results42, go_sem, c4, c5]) rfl ⟨resT_of HT.out, (by repeat (first | exact HB.out | (refine Below.setCell ?_ (by simp <;> omega) _) | (refine Below.alloc ?_ (by simp <;> omega) _) | (refine Below.drew ?_)))⟩
  · cases hd : ratB c d
    · have HT : Hid (addT a b c d = (0, 0, 1)) := Lib.hid (by unfold addT; rw [ha, hd]; rfl)
      have HA := Lib.hid ha
      have HD := Lib.hid hd
      clear ha hd
      go_enter Try.func42, Try.ntmps42
      go_wp2_with fail
      obtain ⟨W, hW⟩ : ∃ W, W = (((w.alloc (.cells #[.int .i64 a, .int .i64 b] 42)).alloc (.cells #[.int .i64 c, .int .i64 d] 42)).alloc (.cells #[.int .i64 0, .int .i64 0] 42)) := ⟨_, rfl⟩
      have c0 : W.cell? ⟨w.heap.size, 0, none⟩ = some (.int .i64 a) := by rw [hW]; simp [go_sem]
      have c1 : W.cell? ⟨w.heap.size, 1, none⟩ = some (.int .i64 b) := by rw [hW]; simp [go_sem]
      have c2 : W.cell? ⟨w.heap.size + 1, 0, none⟩ = some (.int .i64 c) := by rw [hW]; simp [go_sem]
      have c3 : W.cell? ⟨w.heap.size + 1, 1, none⟩ = some (.int .i64 d) := by rw [hW]; simp [go_sem]
      have c4 : W.cell? ⟨w.heap.size + 2, 0, none⟩ = some (.int .i64 0) := by rw [hW]; simp [go_sem]
      have c5 : W.cell? ⟨w.heap.size + 2, 1, none⟩ = some (.int .i64 0) := by rw [hW]; simp [go_sem]
      have f0 : W.frozen? ⟨w.heap.size + 2, 0, none⟩ = false := by rw [hW]; simp [go_sem]
      have f1 : W.frozen? ⟨w.heap.size + 2, 1, none⟩ = false := by rw [hW]; simp [go_sem]
      have HB : Hid (Below w.heap.size w W) := Lib.hid (by rw [hW]; exact (by repeat (first | exact Below.refl _ _ | (refine Below.alloc ?_ (by simp <;> omega) _) | (refine Below.setCell ?_ (by simp <;> omega) _) | (refine Below.drew ?_) | (refine bel_drewN ?_ _))))
      have hlt : w.heap.size ≤ W.heap.size := HB.out.size
      rw [← hW]
      clear hW
      refine (irt_is HA.out _).mono ?_
      rintro e w1 ⟨rfl, hb⟩
      replace f0 := kp_fr f0 c4 hb
      replace f1 := kp_fr f1 c5 hb
      replace c0 := kp1 c0 hb
      replace c1 := kp1 c1 hb
      replace c2 := kp1 c2 hb
      replace c3 := kp1 c3 hb
      replace c4 := kp1 c4 hb
      replace c5 := kp1 c5 hb
      replace HB := Lib.hid (bel_end HB.out hb)
      clear hb
      go_wp2_with fail
      refine (irt_is HD.out _).mono ?_
      rintro e w2 ⟨rfl, hb⟩
      replace f0 := kp_fr f0 c4 hb
      replace f1 := kp_fr f1 c5 hb
      replace c0 := kp1 c0 hb
      replace c1 := kp1 c1 hb
      replace c2 := kp1 c2 hb
      replace c3 := kp1 c3 hb
      replace c4 := kp1 c4 hb
      replace c5 := kp1 c5 hb
      replace HB := Lib.hid (bel_end HB.out hb)
      clear hb
      go_wp2
      exact bodyPost_ret (v := .tuple #[.agg #[.int .i64 0, .int .i64 0], .int .i64 1]) (by simp [results, Try.results42, go_sem, c4, c5]) rfl ⟨resT_of HT.out, (by repeat (first | exact HB.out | (refine Below.setCell ?_ (by simp <;> omega) _) | (refine Below.alloc ?_ (by simp <;> omega) _) | (refine Below.drew ?_)))⟩
    · have HT : Hid (addT a b c d = mkT (a * d + c * b) (b * d)) := Lib.hid (by unfold addT; rw [ha, hd]; rfl)
      obtain ⟨a1, a2, b1, b2, -⟩ := ratB_t ha
      obtain ⟨k1, k2, d1, d2, -⟩ := ratB_t hd
      have HA := Lib.hid ha
      have HD := Lib.hid hd
      clear ha hd
      have p0 := mul_abs (a := a) (n := d) (A := 1000000000) (N := 1000000000) (by omega) (by omega)
      have l0 : -1000000000000000000 ≤ a * d := by omega
      have u0 : a * d ≤ 1000000000000000000 := by omega
      clear p0
      have p1 := mul_abs (a := c) (n := b) (A := 1000000000) (N := 1000000000) (by omega) (by omega)
      have l1 : -1000000000000000000 ≤ c * b := by omega
      have u1 : c * b ≤ 1000000000000000000 := by omega
      clear p1
      have p2 := mul_abs (a := b) (n := d) (A := 1000000000) (N := 1000000000) (by omega) (by omega)
      have l2 : -1000000000000000000 ≤ b * d := by omega
      have u2 : b * d ≤ 1000000000000000000 := by omega
      clear p2
      have z : ¬ b * d = 0 := by have := Int.mul_pos (show 0 < b by omega) (show 0 < d by omega); omega
      obtain ⟨U, hU⟩ : ∃ U, mkT (a * d + c * b) (b * d) = U := ⟨_, rfl⟩
      rw [hU] at HT
      have HU := Lib.hid hU
      clear hU
      go_enter Try.func42, Try.ntmps42
      go_wp2_with fail
      obtain ⟨W, hW⟩ : ∃ W, W = (((w.alloc (.cells #[.int .i64 a, .int .i64 b] 42)).alloc (.cells #[.int .i64 c, .int .i64 d] 42)).alloc (.cells #[.int .i64 0, .int .i64 0] 42)) := ⟨_, rfl⟩
      have c0 : W.cell? ⟨w.heap.size, 0, none⟩ = some (.int .i64 a) := by rw [hW]; simp [go_sem]
      have c1 : W.cell? ⟨w.heap.size, 1, none⟩ = some (.int .i64 b) := by rw [hW]; simp [go_sem]
      have c2 : W.cell? ⟨w.heap.size + 1, 0, none⟩ = some (.int .i64 c) := by rw [hW]; simp [go_sem]
      have c3 : W.cell? ⟨w.heap.size + 1, 1, none⟩ = some (.int .i64 d) := by rw [hW]; simp [go_sem]
      have c4 : W.cell? ⟨w.heap.size + 2, 0, none⟩ = some (.int .i64 0) := by rw [hW]; simp [go_sem]
      have c5 : W.cell? ⟨w.heap.size + 2, 1, none⟩ = some (.int .i64 0) := by rw [hW]; simp [go_sem]
      have f0 : W.frozen? ⟨w.heap.size + 2, 0, none⟩ = false := by rw [hW]; simp [go_sem]
      have f1 : W.frozen? ⟨w.heap.size + 2, 1, none⟩ = false := by rw [hW]; simp [go_sem]
      have HB : Hid (Below w.heap.size w W) := Lib.hid (by rw [hW]; exact (by repeat (first | exact Below.refl _ _ | (refine Below.alloc ?_ (by simp <;> omega) _) | (refine Below.setCell ?_ (by simp <;> omega) _) | (refine Below.drew ?_) | (refine bel_drewN ?_ _))))
      have hlt : w.heap.size ≤ W.heap.size := HB.out.size
      rw [← hW]
      clear hW
      refine (irt_is HA.out _).mono ?_
      rintro e w1 ⟨rfl, hb⟩
      replace f0 := kp_fr f0 c4 hb
      replace f1 := kp_fr f1 c5 hb
      replace c0 := kp1 c0 hb
      replace c1 := kp1 c1 hb
      replace c2 := kp1 c2 hb
      replace c3 := kp1 c3 hb
      replace c4 := kp1 c4 hb
      replace c5 := kp1 c5 hb
      replace HB := Lib.hid (bel_end HB.out hb)
      clear hb
      go_wp2_with fail
      refine (irt_is HD.out _).mono ?_
      rintro e w2 ⟨rfl, hb⟩
      replace f0 := kp_fr f0 c4 hb
      replace f1 := kp_fr f1 c5 hb
      replace c0 := kp1 c0 hb
      replace c1 := kp1 c1 hb
      replace c2 := kp1 c2 hb
      replace c3 := kp1 c3 hb
      replace c4 := kp1 c4 hb
      replace c5 := kp1 c5 hb
      replace HB := Lib.hid (bel_end HB.out hb)
      clear hb
      go_wp2_with fail
      refine (rof_is HU.out (by omega) (by omega) (by omega) (by omega) z _).mono ?_
      rintro e w3 ⟨rfl, hb⟩
      replace f0 := kp_fr f0 c4 hb
      replace f1 := kp_fr f1 c5 hb
      replace c0 := kp1 c0 hb
      replace c1 := kp1 c1 hb
      replace c2 := kp1 c2 hb
      replace c3 := kp1 c3 hb
      replace c4 := kp1 c4 hb
      replace c5 := kp1 c5 hb
      replace HB := Lib.hid (bel_end HB.out hb)
      clear hb
      go_wp2
      exact bodyPost_ret (v := .tuple #[.agg #[.int .i64 U.1, .int .i64 U.2.1], .int .i64 U.2.2]) (by simp [results, Try.results42, go_sem, c4, c5]) rfl ⟨resT_eq HT.out, (by repeat (first | exact HB.out | (refine Below.setCell ?_ (by simp <;> omega) _) | (refine Below.alloc ?_ (by simp <;> omega) _) | (refine Below.drew ?_)))⟩

set_option maxHeartbeats 2000000 in
theorem imu_any (a b c d : Int) (w : World) :
    Calls Try.prog 39 #[.agg #[.int .i64 a, .int .i64 b], .agg #[.int .i64 c, .int .i64 d]] w fun e w' => e = .returned (.tuple #[.agg #[.int .i64 (mulT a b c d).1, .int .i64 (mulT a b c d).2.1], .int .i64 (mulT a b c d).2.2]) ∧ Below w.heap.size w w' := by
  cases ha : ratB a b
  · have HT : Hid (mulT a b c d = (0, 0, 1)) := Lib.hid (by unfold mulT; rw [ha]; rfl)
    have HA := Lib.hid ha
    clear ha
    go_enter Try.func39, Try.ntmps39
    go_wp2_with fail
    obtain ⟨W, hW⟩ : ∃ W, W = (((w.alloc (.cells #[.int .i64 a, .int .i64 b] 42)).alloc (.cells #[.int .i64 c, .int .i64 d] 42)).alloc (.cells #[.int .i64 0, .int .i64 0] 42)) := ⟨_, rfl⟩
    have c0 : W.cell? ⟨w.heap.size, 0, none⟩ = some (.int .i64 a) := by rw [hW]; simp [go_sem]
    have c1 : W.cell? ⟨w.heap.size, 1, none⟩ = some (.int .i64 b) := by rw [hW]; simp [go_sem]
    have c2 : W.cell? ⟨w.heap.size + 1, 0, none⟩ = some (.int .i64 c) := by rw [hW]; simp [go_sem]
    have c3 : W.cell? ⟨w.heap.size + 1, 1, none⟩ = some (.int .i64 d) := by rw [hW]; simp [go_sem]
    have c4 : W.cell? ⟨w.heap.size + 2, 0, none⟩ = some (.int .i64 0) := by rw [hW]; simp [go_sem]
    have c5 : W.cell? ⟨w.heap.size + 2, 1, none⟩ = some (.int .i64 0) := by rw [hW]; simp [go_sem]
    have f0 : W.frozen? ⟨w.heap.size + 2, 0, none⟩ = false := by rw [hW]; simp [go_sem]
    have f1 : W.frozen? ⟨w.heap.size + 2, 1, none⟩ = false := by rw [hW]; simp [go_sem]
    have HB : Hid (Below w.heap.size w W) := Lib.hid (by rw [hW]; exact (by repeat (first | exact Below.refl _ _ | (refine Below.alloc ?_ (by simp <;> omega) _) | (refine Below.setCell ?_ (by simp <;> omega) _) | (refine Below.drew ?_) | (refine bel_drewN ?_ _))))
    have hlt : w.heap.size ≤ W.heap.size := HB.out.size
    rw [← hW]
    clear hW
    refine (irt_is HA.out _).mono ?_
    rintro e w1 ⟨rfl, hb⟩
    replace f0 := kp_fr f0 c4 hb
    replace f1 := kp_fr f1 c5 hb
    replace c0 := kp1 c0 hb
    replace c1 := kp1 c1 hb
    replace c2 := kp1 c2 hb
    replace c3 := kp1 c3 hb
    replace c4 := kp1 c4 hb
    replace c5 := kp1 c5 hb
    replace HB := Lib.hid (bel_end HB.out hb)
    clear hb
    go_wp2
    exact bodyPost_ret (v := .tuple #[.agg #[.int .i64 0, .int .i64 0], .int .i64 1]) (by simp [results, Try.results39, go_sem, c4, c5]) rfl ⟨resT_of HT.out, (by repeat (first | exact HB.out | (refine Below.setCell ?_ (by simp <;> omega) _) | (refine Below.alloc ?_ (by simp <;> omega) _) | (refine Below.drew ?_)))⟩
  · cases hd : ratB c d
    · have HT : Hid (mulT a b c d = (0, 0, 1)) := Lib.hid (by unfold mulT; rw [ha, hd]; rfl)
      have HA := Lib.hid ha
      have HD := Lib.hid hd
      clear ha hd
      go_enter Try.func39, Try.ntmps39
      go_wp2_with fail
      obtain ⟨W, hW⟩ : ∃ W, W = (((w.alloc (.cells #[.int .i64 a, .int .i64 b] 42)).alloc (.cells #[.int .i64 c, .int .i64 d] 42)).alloc (.cells #[.int .i64 0, .int .i64 0] 42)) := ⟨_, rfl⟩
      have c0 : W.cell? ⟨w.heap.size, 0, none⟩ = some (.int .i64 a) := by rw [hW]; simp [go_sem]
      have c1 : W.cell? ⟨w.heap.size, 1, none⟩ = some (.int .i64 b) := by rw [hW]; simp [go_sem]
      have c2 : W.cell? ⟨w.heap.size + 1, 0, none⟩ = some (.int .i64 c) := by rw [hW]; simp [go_sem]
      have c3 : W.cell? ⟨w.heap.size + 1, 1, none⟩ = some (.int .i64 d) := by rw [hW]; simp [go_sem]
      have c4 : W.cell? ⟨w.heap.size + 2, 0, none⟩ = some (.int .i64 0) := by rw [hW]; simp [go_sem]
      have c5 : W.cell? ⟨w.heap.size + 2, 1, none⟩ = some (.int .i64 0) := by rw [hW]; simp [go_sem]
      have f0 : W.frozen? ⟨w.heap.size + 2, 0, none⟩ = false := by rw [hW]; simp [go_sem]
      have f1 : W.frozen? ⟨w.heap.size + 2, 1, none⟩ = false := by rw [hW]; simp [go_sem]
      have HB : Hid (Below w.heap.size w W) := Lib.hid (by rw [hW]; exact (by repeat (first | exact Below.refl _ _ | (refine Below.alloc ?_ (by simp <;> omega) _) | (refine Below.setCell ?_ (by simp <;> omega) _) | (refine Below.drew ?_) | (refine bel_drewN ?_ _))))
      have hlt : w.heap.size ≤ W.heap.size := HB.out.size
      rw [← hW]
      clear hW
      refine (irt_is HA.out _).mono ?_
      rintro e w1 ⟨rfl, hb⟩
      replace f0 := kp_fr f0 c4 hb
      replace f1 := kp_fr f1 c5 hb
      replace c0 := kp1 c0 hb
      replace c1 := kp1 c1 hb
      replace c2 := kp1 c2 hb
      replace c3 := kp1 c3 hb
      replace c4 := kp1 c4 hb
      replace c5 := kp1 c5 hb
      replace HB := Lib.hid (bel_end HB.out hb)
      clear hb
      go_wp2_with fail
      refine (irt_is HD.out _).mono ?_
      rintro e w2 ⟨rfl, hb⟩
      replace f0 := kp_fr f0 c4 hb
      replace f1 := kp_fr f1 c5 hb
      replace c0 := kp1 c0 hb
      replace c1 := kp1 c1 hb
      replace c2 := kp1 c2 hb
      replace c3 := kp1 c3 hb
      replace c4 := kp1 c4 hb
      replace c5 := kp1 c5 hb
      replace HB := Lib.hid (bel_end HB.out hb)
      clear hb
      go_wp2
      exact bodyPost_ret (v := .tuple #[.agg #[.int .i64 0, .int .i64 0], .int .i64 1]) (by simp [results, Try.results39, go_sem, c4, c5]) rfl ⟨resT_of HT.out, (by repeat (first | exact HB.out | (refine Below.setCell ?_ (by simp <;> omega) _) | (refine Below.alloc ?_ (by simp <;> omega) _) | (refine Below.drew ?_)))⟩
    · have HT : Hid (mulT a b c d = mkT (a * c) (b * d)) := Lib.hid (by unfold mulT; rw [ha, hd]; rfl)
      obtain ⟨a1, a2, b1, b2, -⟩ := ratB_t ha
      obtain ⟨k1, k2, d1, d2, -⟩ := ratB_t hd
      have HA := Lib.hid ha
      have HD := Lib.hid hd
      clear ha hd
      have p0 := mul_abs (a := a) (n := c) (A := 1000000000) (N := 1000000000) (by omega) (by omega)
      have l0 : -1000000000000000000 ≤ a * c := by omega
      have u0 : a * c ≤ 1000000000000000000 := by omega
      clear p0
      have p1 := mul_abs (a := b) (n := d) (A := 1000000000) (N := 1000000000) (by omega) (by omega)
      have l1 : -1000000000000000000 ≤ b * d := by omega
      have u1 : b * d ≤ 1000000000000000000 := by omega
      clear p1
      have z : ¬ b * d = 0 := by have := Int.mul_pos (show 0 < b by omega) (show 0 < d by omega); omega
      obtain ⟨U, hU⟩ : ∃ U, mkT (a * c) (b * d) = U := ⟨_, rfl⟩
      rw [hU] at HT
      have HU := Lib.hid hU
      clear hU
      go_enter Try.func39, Try.ntmps39
      go_wp2_with fail
      obtain ⟨W, hW⟩ : ∃ W, W = (((w.alloc (.cells #[.int .i64 a, .int .i64 b] 42)).alloc (.cells #[.int .i64 c, .int .i64 d] 42)).alloc (.cells #[.int .i64 0, .int .i64 0] 42)) := ⟨_, rfl⟩
      have c0 : W.cell? ⟨w.heap.size, 0, none⟩ = some (.int .i64 a) := by rw [hW]; simp [go_sem]
      have c1 : W.cell? ⟨w.heap.size, 1, none⟩ = some (.int .i64 b) := by rw [hW]; simp [go_sem]
      have c2 : W.cell? ⟨w.heap.size + 1, 0, none⟩ = some (.int .i64 c) := by rw [hW]; simp [go_sem]
      have c3 : W.cell? ⟨w.heap.size + 1, 1, none⟩ = some (.int .i64 d) := by rw [hW]; simp [go_sem]
      have c4 : W.cell? ⟨w.heap.size + 2, 0, none⟩ = some (.int .i64 0) := by rw [hW]; simp [go_sem]
      have c5 : W.cell? ⟨w.heap.size + 2, 1, none⟩ = some (.int .i64 0) := by rw [hW]; simp [go_sem]
      have f0 : W.frozen? ⟨w.heap.size + 2, 0, none⟩ = false := by rw [hW]; simp [go_sem]
      have f1 : W.frozen? ⟨w.heap.size + 2, 1, none⟩ = false := by rw [hW]; simp [go_sem]
      have HB : Hid (Below w.heap.size w W) := Lib.hid (by rw [hW]; exact (by repeat (first | exact Below.refl _ _ | (refine Below.alloc ?_ (by simp <;> omega) _) | (refine Below.setCell ?_ (by simp <;> omega) _) | (refine Below.drew ?_) | (refine bel_drewN ?_ _))))
      have hlt : w.heap.size ≤ W.heap.size := HB.out.size
      rw [← hW]
      clear hW
      refine (irt_is HA.out _).mono ?_
      rintro e w1 ⟨rfl, hb⟩
      replace f0 := kp_fr f0 c4 hb
      replace f1 := kp_fr f1 c5 hb
      replace c0 := kp1 c0 hb
      replace c1 := kp1 c1 hb
      replace c2 := kp1 c2 hb
      replace c3 := kp1 c3 hb
      replace c4 := kp1 c4 hb
      replace c5 := kp1 c5 hb
      replace HB := Lib.hid (bel_end HB.out hb)
      clear hb
      go_wp2_with fail
      refine (irt_is HD.out _).mono ?_
      rintro e w2 ⟨rfl, hb⟩
      replace f0 := kp_fr f0 c4 hb
      replace f1 := kp_fr f1 c5 hb
      replace c0 := kp1 c0 hb
      replace c1 := kp1 c1 hb
      replace c2 := kp1 c2 hb
      replace c3 := kp1 c3 hb
      replace c4 := kp1 c4 hb
      replace c5 := kp1 c5 hb
      replace HB := Lib.hid (bel_end HB.out hb)
      clear hb
      go_wp2_with fail
      refine (rof_is HU.out (by omega) (by omega) (by omega) (by omega) z _).mono ?_
      rintro e w3 ⟨rfl, hb⟩
      replace f0 := kp_fr f0 c4 hb
      replace f1 := kp_fr f1 c5 hb
      replace c0 := kp1 c0 hb
      replace c1 := kp1 c1 hb
      replace c2 := kp1 c2 hb
      replace c3 := kp1 c3 hb
      replace c4 := kp1 c4 hb
      replace c5 := kp1 c5 hb
      replace HB := Lib.hid (bel_end HB.out hb)
      clear hb
      go_wp2
      exact bodyPost_ret (v := .tuple #[.agg #[.int .i64 U.1, .int .i64 U.2.1], .int .i64 U.2.2]) (by simp [results, Try.results39, go_sem, c4, c5]) rfl ⟨resT_eq HT.out, (by repeat (first | exact HB.out | (refine Below.setCell ?_ (by simp <;> omega) _) | (refine Below.alloc ?_ (by simp <;> omega) _) | (refine Below.drew ?_)))⟩

set_option maxHeartbeats 2000000 in
theorem ime_any (a b c d : Int) (w : World) :
    Calls Try.prog 47 #[.agg #[.int .i64 a, .int .i64 b], .agg #[.int .i64 c, .int .i64 d]] w fun e w' => e = .returned (.tuple #[.agg #[.int .i64 (medT a b c d).1, .int .i64 (medT a b c d).2.1], .int .i64 (medT a b c d).2.2]) ∧ Below w.heap.size w w' := by
  cases ha : ratB a b
  · have HT : Hid (medT a b c d = (0, 0, 1)) := Lib.hid (by unfold medT; rw [ha]; rfl)
    have HA := Lib.hid ha
    clear ha
    go_enter Try.func47, Try.ntmps47
    go_wp2_with fail
    obtain ⟨W, hW⟩ : ∃ W, W = (((w.alloc (.cells #[.int .i64 a, .int .i64 b] 42)).alloc (.cells #[.int .i64 c, .int .i64 d] 42)).alloc (.cells #[.int .i64 0, .int .i64 0] 42)) := ⟨_, rfl⟩
    have c0 : W.cell? ⟨w.heap.size, 0, none⟩ = some (.int .i64 a) := by rw [hW]; simp [go_sem]
    have c1 : W.cell? ⟨w.heap.size, 1, none⟩ = some (.int .i64 b) := by rw [hW]; simp [go_sem]
    have c2 : W.cell? ⟨w.heap.size + 1, 0, none⟩ = some (.int .i64 c) := by rw [hW]; simp [go_sem]
    have c3 : W.cell? ⟨w.heap.size + 1, 1, none⟩ = some (.int .i64 d) := by rw [hW]; simp [go_sem]
    have c4 : W.cell? ⟨w.heap.size + 2, 0, none⟩ = some (.int .i64 0) := by rw [hW]; simp [go_sem]
    have c5 : W.cell? ⟨w.heap.size + 2, 1, none⟩ = some (.int .i64 0) := by rw [hW]; simp [go_sem]
    have f0 : W.frozen? ⟨w.heap.size + 2, 0, none⟩ = false := by rw [hW]; simp [go_sem]
    have f1 : W.frozen? ⟨w.heap.size + 2, 1, none⟩ = false := by rw [hW]; simp [go_sem]
    have HB : Hid (Below w.heap.size w W) := Lib.hid (by rw [hW]; exact (by repeat (first | exact Below.refl _ _ | (refine Below.alloc ?_ (by simp <;> omega) _) | (refine Below.setCell ?_ (by simp <;> omega) _) | (refine Below.drew ?_) | (refine bel_drewN ?_ _))))
    have hlt : w.heap.size ≤ W.heap.size := HB.out.size
    rw [← hW]
    clear hW
    refine (irt_is HA.out _).mono ?_
    rintro e w1 ⟨rfl, hb⟩
    replace f0 := kp_fr f0 c4 hb
    replace f1 := kp_fr f1 c5 hb
    replace c0 := kp1 c0 hb
    replace c1 := kp1 c1 hb
    replace c2 := kp1 c2 hb
    replace c3 := kp1 c3 hb
    replace c4 := kp1 c4 hb
    replace c5 := kp1 c5 hb
    replace HB := Lib.hid (bel_end HB.out hb)
    clear hb
    go_wp2
    exact bodyPost_ret (v := .tuple #[.agg #[.int .i64 0, .int .i64 0], .int .i64 1]) (by simp [results, Try.results47, go_sem, c4, c5]) rfl ⟨resT_of HT.out, (by repeat (first | exact HB.out | (refine Below.setCell ?_ (by simp <;> omega) _) | (refine Below.alloc ?_ (by simp <;> omega) _) | (refine Below.drew ?_)))⟩
  · cases hd : ratB c d
    · have HT : Hid (medT a b c d = (0, 0, 1)) := Lib.hid (by unfold medT; rw [ha, hd]; rfl)
      have HA := Lib.hid ha
      have HD := Lib.hid hd
      clear ha hd
      go_enter Try.func47, Try.ntmps47
      go_wp2_with fail
      obtain ⟨W, hW⟩ : ∃ W, W = (((w.alloc (.cells #[.int .i64 a, .int .i64 b] 42)).alloc (.cells #[.int .i64 c, .int .i64 d] 42)).alloc (.cells #[.int .i64 0, .int .i64 0] 42)) := ⟨_, rfl⟩
      have c0 : W.cell? ⟨w.heap.size, 0, none⟩ = some (.int .i64 a) := by rw [hW]; simp [go_sem]
      have c1 : W.cell? ⟨w.heap.size, 1, none⟩ = some (.int .i64 b) := by rw [hW]; simp [go_sem]
      have c2 : W.cell? ⟨w.heap.size + 1, 0, none⟩ = some (.int .i64 c) := by rw [hW]; simp [go_sem]
      have c3 : W.cell? ⟨w.heap.size + 1, 1, none⟩ = some (.int .i64 d) := by rw [hW]; simp [go_sem]
      have c4 : W.cell? ⟨w.heap.size + 2, 0, none⟩ = some (.int .i64 0) := by rw [hW]; simp [go_sem]
      have c5 : W.cell? ⟨w.heap.size + 2, 1, none⟩ = some (.int .i64 0) := by rw [hW]; simp [go_sem]
      have f0 : W.frozen? ⟨w.heap.size + 2, 0, none⟩ = false := by rw [hW]; simp [go_sem]
      have f1 : W.frozen? ⟨w.heap.size + 2, 1, none⟩ = false := by rw [hW]; simp [go_sem]
      have HB : Hid (Below w.heap.size w W) := Lib.hid (by rw [hW]; exact (by repeat (first | exact Below.refl _ _ | (refine Below.alloc ?_ (by simp <;> omega) _) | (refine Below.setCell ?_ (by simp <;> omega) _) | (refine Below.drew ?_) | (refine bel_drewN ?_ _))))
      have hlt : w.heap.size ≤ W.heap.size := HB.out.size
      rw [← hW]
      clear hW
      refine (irt_is HA.out _).mono ?_
      rintro e w1 ⟨rfl, hb⟩
      replace f0 := kp_fr f0 c4 hb
      replace f1 := kp_fr f1 c5 hb
      replace c0 := kp1 c0 hb
      replace c1 := kp1 c1 hb
      replace c2 := kp1 c2 hb
      replace c3 := kp1 c3 hb
      replace c4 := kp1 c4 hb
      replace c5 := kp1 c5 hb
      replace HB := Lib.hid (bel_end HB.out hb)
      clear hb
      go_wp2_with fail
      refine (irt_is HD.out _).mono ?_
      rintro e w2 ⟨rfl, hb⟩
      replace f0 := kp_fr f0 c4 hb
      replace f1 := kp_fr f1 c5 hb
      replace c0 := kp1 c0 hb
      replace c1 := kp1 c1 hb
      replace c2 := kp1 c2 hb
      replace c3 := kp1 c3 hb
      replace c4 := kp1 c4 hb
      replace c5 := kp1 c5 hb
      replace HB := Lib.hid (bel_end HB.out hb)
      clear hb
      go_wp2
      exact bodyPost_ret (v := .tuple #[.agg #[.int .i64 0, .int .i64 0], .int .i64 1]) (by simp [results, Try.results47, go_sem, c4, c5]) rfl ⟨resT_of HT.out, (by repeat (first | exact HB.out | (refine Below.setCell ?_ (by simp <;> omega) _) | (refine Below.alloc ?_ (by simp <;> omega) _) | (refine Below.drew ?_)))⟩
    · have HT : Hid (medT a b c d = mkT (a + c) (b + d)) := Lib.hid (by unfold medT; rw [ha, hd]; rfl)
      obtain ⟨a1, a2, b1, b2, -⟩ := ratB_t ha
      obtain ⟨k1, k2, d1, d2, -⟩ := ratB_t hd
      have HA := Lib.hid ha
      have HD := Lib.hid hd
      clear ha hd
      have z : ¬ b + d = 0 := by omega
      obtain ⟨U, hU⟩ : ∃ U, mkT (a + c) (b + d) = U := ⟨_, rfl⟩
      rw [hU] at HT
      have HU := Lib.hid hU
      clear hU
      go_enter Try.func47, Try.ntmps47
      go_wp2_with fail
      obtain ⟨W, hW⟩ : ∃ W, W = (((w.alloc (.cells #[.int .i64 a, .int .i64 b] 42)).alloc (.cells #[.int .i64 c, .int .i64 d] 42)).alloc (.cells #[.int .i64 0, .int .i64 0] 42)) := ⟨_, rfl⟩
      have c0 : W.cell? ⟨w.heap.size, 0, none⟩ = some (.int .i64 a) := by rw [hW]; simp [go_sem]
      have c1 : W.cell? ⟨w.heap.size, 1, none⟩ = some (.int .i64 b) := by rw [hW]; simp [go_sem]
      have c2 : W.cell? ⟨w.heap.size + 1, 0, none⟩ = some (.int .i64 c) := by rw [hW]; simp [go_sem]
      have c3 : W.cell? ⟨w.heap.size + 1, 1, none⟩ = some (.int .i64 d) := by rw [hW]; simp [go_sem]
      have c4 : W.cell? ⟨w.heap.size + 2, 0, none⟩ = some (.int .i64 0) := by rw [hW]; simp [go_sem]
      have c5 : W.cell? ⟨w.heap.size + 2, 1, none⟩ = some (.int .i64 0) := by rw [hW]; simp [go_sem]
      have f0 : W.frozen? ⟨w.heap.size + 2, 0, none⟩ = false := by rw [hW]; simp [go_sem]
      have f1 : W.frozen? ⟨w.heap.size + 2, 1, none⟩ = false := by rw [hW]; simp [go_sem]
      have HB : Hid (Below w.heap.size w W) := Lib.hid (by rw [hW]; exact (by repeat (first | exact Below.refl _ _ | (refine Below.alloc ?_ (by simp <;> omega) _) | (refine Below.setCell ?_ (by simp <;> omega) _) | (refine Below.drew ?_) | (refine bel_drewN ?_ _))))
      have hlt : w.heap.size ≤ W.heap.size := HB.out.size
      rw [← hW]
      clear hW
      refine (irt_is HA.out _).mono ?_
      rintro e w1 ⟨rfl, hb⟩
      replace f0 := kp_fr f0 c4 hb
      replace f1 := kp_fr f1 c5 hb
      replace c0 := kp1 c0 hb
      replace c1 := kp1 c1 hb
      replace c2 := kp1 c2 hb
      replace c3 := kp1 c3 hb
      replace c4 := kp1 c4 hb
      replace c5 := kp1 c5 hb
      replace HB := Lib.hid (bel_end HB.out hb)
      clear hb
      go_wp2_with fail
      refine (irt_is HD.out _).mono ?_
      rintro e w2 ⟨rfl, hb⟩
      replace f0 := kp_fr f0 c4 hb
      replace f1 := kp_fr f1 c5 hb
      replace c0 := kp1 c0 hb
      replace c1 := kp1 c1 hb
      replace c2 := kp1 c2 hb
      replace c3 := kp1 c3 hb
      replace c4 := kp1 c4 hb
      replace c5 := kp1 c5 hb
      replace HB := Lib.hid (bel_end HB.out hb)
      clear hb
      go_wp2_with fail
      refine (rof_is HU.out (by omega) (by omega) (by omega) (by omega) z _).mono ?_
      rintro e w3 ⟨rfl, hb⟩
      replace f0 := kp_fr f0 c4 hb
      replace f1 := kp_fr f1 c5 hb
      replace c0 := kp1 c0 hb
      replace c1 := kp1 c1 hb
      replace c2 := kp1 c2 hb
      replace c3 := kp1 c3 hb
      replace c4 := kp1 c4 hb
      replace c5 := kp1 c5 hb
      replace HB := Lib.hid (bel_end HB.out hb)
      clear hb
      go_wp2
      exact bodyPost_ret (v := .tuple #[.agg #[.int .i64 U.1, .int .i64 U.2.1], .int .i64 U.2.2]) (by simp [results, Try.results47, go_sem, c4, c5]) rfl ⟨resT_eq HT.out, (by repeat (first | exact HB.out | (refine Below.setCell ?_ (by simp <;> omega) _) | (refine Below.alloc ?_ (by simp <;> omega) _) | (refine Below.drew ?_)))⟩

set_option maxHeartbeats 2000000 in
theorem sad_any (a b c d : Int) (w : World) :
    Calls Try.prog 43 #[.agg #[.int .i64 a, .int .i64 b], .agg #[.int .i64 c, .int .i64 d]] w fun e w' => e = .returned (.tuple #[.agg #[.int .i64 (addT a b c d).1, .int .i64 (addT a b c d).2.1], .int .i64 (addT a b c d).2.2]) ∧ Below w.heap.size w w' := by
  cases ha : ratB a b
  · have HT : Hid (addT a b c d = (0, 0, 1)) := Lib.hid (by unfold addT; rw [ha]; rfl)
    have HA := Lib.hid ha
    clear ha
    go_enter Try.func43, Try.ntmps43
    go_wp2_with fail
    obtain ⟨W, hW⟩ : ∃ W, W = (((w.alloc (.cells #[.int .i64 a, .int .i64 b] 42)).alloc (.cells #[.int .i64 c, .int .i64 d] 42)).alloc (.cells #[.int .i64 0, .int .i64 0] 42)) := ⟨_, rfl⟩
    have c0 : W.cell? ⟨w.heap.size, 0, none⟩ = some (.int .i64 a) := by rw [hW]; simp [go_sem]
    have c1 : W.cell? ⟨w.heap.size, 1, none⟩ = some (.int .i64 b) := by rw [hW]; simp [go_sem]
    have c2 : W.cell? ⟨w.heap.size + 1, 0, none⟩ = some (.int .i64 c) := by rw [hW]; simp [go_sem]
    have c3 : W.cell? ⟨w.heap.size + 1, 1, none⟩ = some (.int .i64 d) := by rw [hW]; simp [go_sem]
    have c4 : W.cell? ⟨w.heap.size + 2, 0, none⟩ = some (.int .i64 0) := by rw [hW]; simp [go_sem]
    have c5 : W.cell? ⟨w.heap.size + 2, 1, none⟩ = some (.int .i64 0) := by rw [hW]; simp [go_sem]
    have f0 : W.frozen? ⟨w.heap.size + 2, 0, none⟩ = false := by rw [hW]; simp [go_sem]
    have f1 : W.frozen? ⟨w.heap.size + 2, 1, none⟩ = false := by rw [hW]; simp [go_sem]
    have HB : Hid (Below w.heap.size w W) := Lib.hid (by rw [hW]; exact (by repeat (first | exact Below.refl _ _ | (refine Below.alloc ?_ (by simp <;> omega) _) | (refine Below.setCell ?_ (by simp <;> omega) _) | (refine Below.drew ?_) | (refine bel_drewN ?_ _))))
    have hlt : w.heap.size ≤ W.heap.size := HB.out.size
    rw [← hW]
    clear hW
    refine (srt_is HA.out _).mono ?_
    rintro e w1 ⟨rfl, hb⟩
    replace f0 := kp_fr f0 c4 hb
    replace f1 := kp_fr f1 c5 hb
    replace c0 := kp1 c0 hb
    replace c1 := kp1 c1 hb
    replace c2 := kp1 c2 hb
    replace c3 := kp1 c3 hb
    replace c4 := kp1 c4 hb
    replace c5 := kp1 c5 hb
    replace HB := Lib.hid (bel_end HB.out hb)
    clear hb
    go_wp2
    exact bodyPost_ret (v := .tuple #[.agg #[.int .i64 0, .int .i64 0], .int .i64 1]) (by simp [results, Try.results43, go_sem, c4, c5]) rfl ⟨resT_of HT.out, (by repeat (first | exact HB.out | (refine Below.setCell ?_ (by simp <;> omega) _) | (refine Below.alloc ?_ (by simp <;> omega) _) | (refine Below.drew ?_)))⟩
  · cases hd : ratB c d
    · have HT : Hid (addT a b c d = (0, 0, 1)) := Lib.hid (by unfold addT; rw [ha, hd]; rfl)
      have HA := Lib.hid ha
      have HD := Lib.hid hd
      clear ha hd
      go_enter Try.func43, Try.ntmps43
      go_wp2_with fail
      obtain ⟨W, hW⟩ : ∃ W, W = (((w.alloc (.cells #[.int .i64 a, .int .i64 b] 42)).alloc (.cells #[.int .i64 c, .int .i64 d] 42)).alloc (.cells #[.int .i64 0, .int .i64 0] 42)) := ⟨_, rfl⟩
      have c0 : W.cell? ⟨w.heap.size, 0, none⟩ = some (.int .i64 a) := by rw [hW]; simp [go_sem]
      have c1 : W.cell? ⟨w.heap.size, 1, none⟩ = some (.int .i64 b) := by rw [hW]; simp [go_sem]
      have c2 : W.cell? ⟨w.heap.size + 1, 0, none⟩ = some (.int .i64 c) := by rw [hW]; simp [go_sem]
      have c3 : W.cell? ⟨w.heap.size + 1, 1, none⟩ = some (.int .i64 d) := by rw [hW]; simp [go_sem]
      have c4 : W.cell? ⟨w.heap.size + 2, 0, none⟩ = some (.int .i64 0) := by rw [hW]; simp [go_sem]
      have c5 : W.cell? ⟨w.heap.size + 2, 1, none⟩ = some (.int .i64 0) := by rw [hW]; simp [go_sem]
      have f0 : W.frozen? ⟨w.heap.size + 2, 0, none⟩ = false := by rw [hW]; simp [go_sem]
      have f1 : W.frozen? ⟨w.heap.size + 2, 1, none⟩ = false := by rw [hW]; simp [go_sem]
      have HB : Hid (Below w.heap.size w W) := Lib.hid (by rw [hW]; exact (by repeat (first | exact Below.refl _ _ | (refine Below.alloc ?_ (by simp <;> omega) _) | (refine Below.setCell ?_ (by simp <;> omega) _) | (refine Below.drew ?_) | (refine bel_drewN ?_ _))))
      have hlt : w.heap.size ≤ W.heap.size := HB.out.size
      rw [← hW]
      clear hW
      refine (srt_is HA.out _).mono ?_
      rintro e w1 ⟨rfl, hb⟩
      replace f0 := kp_fr f0 c4 hb
      replace f1 := kp_fr f1 c5 hb
      replace c0 := kp1 c0 hb
      replace c1 := kp1 c1 hb
      replace c2 := kp1 c2 hb
      replace c3 := kp1 c3 hb
      replace c4 := kp1 c4 hb
      replace c5 := kp1 c5 hb
      replace HB := Lib.hid (bel_end HB.out hb)
      clear hb
      go_wp2_with fail
      refine (srt_is HD.out _).mono ?_
      rintro e w2 ⟨rfl, hb⟩
      replace f0 := kp_fr f0 c4 hb
      replace f1 := kp_fr f1 c5 hb
      replace c0 := kp1 c0 hb
      replace c1 := kp1 c1 hb
      replace c2 := kp1 c2 hb
      replace c3 := kp1 c3 hb
      replace c4 := kp1 c4 hb
      replace c5 := kp1 c5 hb
      replace HB := Lib.hid (bel_end HB.out hb)
      clear hb
      go_wp2
      exact bodyPost_ret (v := .tuple #[.agg #[.int .i64 0, .int .i64 0], .int .i64 1]) (by simp [results, Try.results43, go_sem, c4, c5]) rfl ⟨resT_of HT.out, (by repeat (first | exact HB.out | (refine Below.setCell ?_ (by simp <;> omega) _) | (refine Below.alloc ?_ (by simp <;> omega) _) | (refine Below.drew ?_)))⟩
    · have HT : Hid (addT a b c d = mkT (a * d + c * b) (b * d)) := Lib.hid (by unfold addT; rw [ha, hd]; rfl)
      obtain ⟨a1, a2, b1, b2, -⟩ := ratB_t ha
      obtain ⟨k1, k2, d1, d2, -⟩ := ratB_t hd
      have HA := Lib.hid ha
      have HD := Lib.hid hd
      clear ha hd
      have p0 := mul_abs (a := a) (n := d) (A := 1000000000) (N := 1000000000) (by omega) (by omega)
      have l0 : -1000000000000000000 ≤ a * d := by omega
      have u0 : a * d ≤ 1000000000000000000 := by omega
      clear p0
      have p1 := mul_abs (a := c) (n := b) (A := 1000000000) (N := 1000000000) (by omega) (by omega)
      have l1 : -1000000000000000000 ≤ c * b := by omega
      have u1 : c * b ≤ 1000000000000000000 := by omega
      clear p1
      have p2 := mul_abs (a := b) (n := d) (A := 1000000000) (N := 1000000000) (by omega) (by omega)
      have l2 : -1000000000000000000 ≤ b * d := by omega
      have u2 : b * d ≤ 1000000000000000000 := by omega
      clear p2
      have z : ¬ b * d = 0 := by have := Int.mul_pos (show 0 < b by omega) (show 0 < d by omega); omega
      obtain ⟨U, hU⟩ : ∃ U, mkT (a * d + c * b) (b * d) = U := ⟨_, rfl⟩
      rw [hU] at HT
      have HU := Lib.hid hU
      clear hU
      go_enter Try.func43, Try.ntmps43
      go_wp2_with fail
      obtain ⟨W, hW⟩ : ∃ W, W = (((w.alloc (.cells #[.int .i64 a, .int .i64 b] 42)).alloc (.cells #[.int .i64 c, .int .i64 d] 42)).alloc (.cells #[.int .i64 0, .int .i64 0] 42)) := ⟨_, rfl⟩
      have c0 : W.cell? ⟨w.heap.size, 0, none⟩ = some (.int .i64 a) := by rw [hW]; simp [go_sem]
      have c1 : W.cell? ⟨w.heap.size, 1, none⟩ = some (.int .i64 b) := by rw [hW]; simp [go_sem]
      have c2 : W.cell? ⟨w.heap.size + 1, 0, none⟩ = some (.int .i64 c) := by rw [hW]; simp [go_sem]
      have c3 : W.cell? ⟨w.heap.size + 1, 1, none⟩ = some (.int .i64 d) := by rw [hW]; simp [go_sem]
      have c4 : W.cell? ⟨w.heap.size + 2, 0, none⟩ = some (.int .i64 0) := by rw [hW]; simp [go_sem]
      have c5 : W.cell? ⟨w.heap.size + 2, 1, none⟩ = some (.int .i64 0) := by rw [hW]; simp [go_sem]
      have f0 : W.frozen? ⟨w.heap.size + 2, 0, none⟩ = false := by rw [hW]; simp [go_sem]
      have f1 : W.frozen? ⟨w.heap.size + 2, 1, none⟩ = false := by rw [hW]; simp [go_sem]
      have HB : Hid (Below w.heap.size w W) := Lib.hid (by rw [hW]; exact (by repeat (first | exact Below.refl _ _ | (refine Below.alloc ?_ (by simp <;> omega) _) | (refine Below.setCell ?_ (by simp <;> omega) _) | (refine Below.drew ?_) | (refine bel_drewN ?_ _))))
      have hlt : w.heap.size ≤ W.heap.size := HB.out.size
      rw [← hW]
      clear hW
      refine (srt_is HA.out _).mono ?_
      rintro e w1 ⟨rfl, hb⟩
      replace f0 := kp_fr f0 c4 hb
      replace f1 := kp_fr f1 c5 hb
      replace c0 := kp1 c0 hb
      replace c1 := kp1 c1 hb
      replace c2 := kp1 c2 hb
      replace c3 := kp1 c3 hb
      replace c4 := kp1 c4 hb
      replace c5 := kp1 c5 hb
      replace HB := Lib.hid (bel_end HB.out hb)
      clear hb
      go_wp2_with fail
      refine (srt_is HD.out _).mono ?_
      rintro e w2 ⟨rfl, hb⟩
      replace f0 := kp_fr f0 c4 hb
      replace f1 := kp_fr f1 c5 hb
      replace c0 := kp1 c0 hb
      replace c1 := kp1 c1 hb
      replace c2 := kp1 c2 hb
      replace c3 := kp1 c3 hb
      replace c4 := kp1 c4 hb
      replace c5 := kp1 c5 hb
      replace HB := Lib.hid (bel_end HB.out hb)
      clear hb
      go_wp2_with fail
      refine (lmk_is HU.out (by omega) (by omega) (by omega) (by omega) z _).mono ?_
      rintro e w3 ⟨rfl, hb⟩
      replace f0 := kp_fr f0 c4 hb
      replace f1 := kp_fr f1 c5 hb
      replace c0 := kp1 c0 hb
      replace c1 := kp1 c1 hb
      replace c2 := kp1 c2 hb
      replace c3 := kp1 c3 hb
      replace c4 := kp1 c4 hb
      replace c5 := kp1 c5 hb
      replace HB := Lib.hid (bel_end HB.out hb)
      clear hb
      go_wp2
      exact bodyPost_ret (v := .tuple #[.agg #[.int .i64 U.1, .int .i64 U.2.1], .int .i64 U.2.2]) (by simp [results, Try.results43, go_sem, c4, c5]) rfl ⟨resT_eq HT.out, (by repeat (first | exact HB.out | (refine Below.setCell ?_ (by simp <;> omega) _) | (refine Below.alloc ?_ (by simp <;> omega) _) | (refine Below.drew ?_)))⟩

set_option maxHeartbeats 2000000 in
theorem smu_any (a b c d : Int) (w : World) :
    Calls Try.prog 45 #[.agg #[.int .i64 a, .int .i64 b], .agg #[.int .i64 c, .int .i64 d]] w fun e w' => e = .returned (.tuple #[.agg #[.int .i64 (mulT a b c d).1, .int .i64 (mulT a b c d).2.1], .int .i64 (mulT a b c d).2.2]) ∧ Below w.heap.size w w' := by
  cases ha : ratB a b
  · have HT : Hid (mulT a b c d = (0, 0, 1)) := Lib.hid (by unfold mulT; rw [ha]; rfl)
    have HA := Lib.hid ha
    clear ha
    go_enter Try.func45, Try.ntmps45
    go_wp2_with fail
    obtain ⟨W, hW⟩ : ∃ W, W = (((w.alloc (.cells #[.int .i64 a, .int .i64 b] 42)).alloc (.cells #[.int .i64 c, .int .i64 d] 42)).alloc (.cells #[.int .i64 0, .int .i64 0] 42)) := ⟨_, rfl⟩
    have c0 : W.cell? ⟨w.heap.size, 0, none⟩ = some (.int .i64 a) := by rw [hW]; simp [go_sem]
    have c1 : W.cell? ⟨w.heap.size, 1, none⟩ = some (.int .i64 b) := by rw [hW]; simp [go_sem]
    have c2 : W.cell? ⟨w.heap.size + 1, 0, none⟩ = some (.int .i64 c) := by rw [hW]; simp [go_sem]
    have c3 : W.cell? ⟨w.heap.size + 1, 1, none⟩ = some (.int .i64 d) := by rw [hW]; simp [go_sem]
    have c4 : W.cell? ⟨w.heap.size + 2, 0, none⟩ = some (.int .i64 0) := by rw [hW]; simp [go_sem]
    have c5 : W.cell? ⟨w.heap.size + 2, 1, none⟩ = some (.int .i64 0) := by rw [hW]; simp [go_sem]
    have f0 : W.frozen? ⟨w.heap.size + 2, 0, none⟩ = false := by rw [hW]; simp [go_sem]
    have f1 : W.frozen? ⟨w.heap.size + 2, 1, none⟩ = false := by rw [hW]; simp [go_sem]
    have HB : Hid (Below w.heap.size w W) := Lib.hid (by rw [hW]; exact (by repeat (first | exact Below.refl _ _ | (refine Below.alloc ?_ (by simp <;> omega) _) | (refine Below.setCell ?_ (by simp <;> omega) _) | (refine Below.drew ?_) | (refine bel_drewN ?_ _))))
    have hlt : w.heap.size ≤ W.heap.size := HB.out.size
    rw [← hW]
    clear hW
    refine (srt_is HA.out _).mono ?_
    rintro e w1 ⟨rfl, hb⟩
    replace f0 := kp_fr f0 c4 hb
    replace f1 := kp_fr f1 c5 hb
    replace c0 := kp1 c0 hb
    replace c1 := kp1 c1 hb
    replace c2 := kp1 c2 hb
    replace c3 := kp1 c3 hb
    replace c4 := kp1 c4 hb
    replace c5 := kp1 c5 hb
    replace HB := Lib.hid (bel_end HB.out hb)
    clear hb
    go_wp2
    exact bodyPost_ret (v := .tuple #[.agg #[.int .i64 0, .int .i64 0], .int .i64 1]) (by simp [results, Try.results45, go_sem, c4, c5]) rfl ⟨resT_of HT.out, (by repeat (first | exact HB.out | (refine Below.setCell ?_ (by simp <;> omega) _) | (refine Below.alloc ?_ (by simp <;> omega) _) | (refine Below.drew ?_)))⟩
  · cases hd : ratB c d
    · have HT : Hid (mulT a b c d = (0, 0, 1)) := Lib.hid (by unfold mulT; rw [ha, hd]; rfl)
      have HA := Lib.hid ha
      have HD := Lib.hid hd
      clear ha hd
      go_enter Try.func45, Try.ntmps45
      go_wp2_with fail
      obtain ⟨W, hW⟩ : ∃ W, W = (((w.alloc (.cells #[.int .i64 a, .int .i64 b] 42)).alloc (.cells #[.int .i64 c, .int .i64 d] 42)).alloc (.cells #[.int .i64 0, .int .i64 0] 42)) := ⟨_, rfl⟩
      have c0 : W.cell? ⟨w.heap.size, 0, none⟩ = some (.int .i64 a) := by rw [hW]; simp [go_sem]
      have c1 : W.cell? ⟨w.heap.size, 1, none⟩ = some (.int .i64 b) := by rw [hW]; simp [go_sem]
      have c2 : W.cell? ⟨w.heap.size + 1, 0, none⟩ = some (.int .i64 c) := by rw [hW]; simp [go_sem]
      have c3 : W.cell? ⟨w.heap.size + 1, 1, none⟩ = some (.int .i64 d) := by rw [hW]; simp [go_sem]
      have c4 : W.cell? ⟨w.heap.size + 2, 0, none⟩ = some (.int .i64 0) := by rw [hW]; simp [go_sem]
      have c5 : W.cell? ⟨w.heap.size + 2, 1, none⟩ = some (.int .i64 0) := by rw [hW]; simp [go_sem]
      have f0 : W.frozen? ⟨w.heap.size + 2, 0, none⟩ = false := by rw [hW]; simp [go_sem]
      have f1 : W.frozen? ⟨w.heap.size + 2, 1, none⟩ = false := by rw [hW]; simp [go_sem]
      have HB : Hid (Below w.heap.size w W) := Lib.hid (by rw [hW]; exact (by repeat (first | exact Below.refl _ _ | (refine Below.alloc ?_ (by simp <;> omega) _) | (refine Below.setCell ?_ (by simp <;> omega) _) | (refine Below.drew ?_) | (refine bel_drewN ?_ _))))
      have hlt : w.heap.size ≤ W.heap.size := HB.out.size
      rw [← hW]
      clear hW
      refine (srt_is HA.out _).mono ?_
      rintro e w1 ⟨rfl, hb⟩
      replace f0 := kp_fr f0 c4 hb
      replace f1 := kp_fr f1 c5 hb
      replace c0 := kp1 c0 hb
      replace c1 := kp1 c1 hb
      replace c2 := kp1 c2 hb
      replace c3 := kp1 c3 hb
      replace c4 := kp1 c4 hb
      replace c5 := kp1 c5 hb
      replace HB := Lib.hid (bel_end HB.out hb)
      clear hb
      go_wp2_with fail
      refine (srt_is HD.out _).mono ?_
      rintro e w2 ⟨rfl, hb⟩
      replace f0 := kp_fr f0 c4 hb
      replace f1 := kp_fr f1 c5 hb
      replace c0 := kp1 c0 hb
      replace c1 := kp1 c1 hb
      replace c2 := kp1 c2 hb
      replace c3 := kp1 c3 hb
      replace c4 := kp1 c4 hb
      replace c5 := kp1 c5 hb
      replace HB := Lib.hid (bel_end HB.out hb)
      clear hb
      go_wp2
      exact bodyPost_ret (v := .tuple #[.agg #[.int .i64 0, .int .i64 0], .int .i64 1]) (by simp [results, Try.results45, go_sem, c4, c5]) rfl ⟨resT_of HT.out, (by repeat (first | exact HB.out | (refine Below.setCell ?_ (by simp <;> omega) _) | (refine Below.alloc ?_ (by simp <;> omega) _) | (refine Below.drew ?_)))⟩
    · have HT : Hid (mulT a b c d = mkT (a * c) (b * d)) := Lib.hid (by unfold mulT; rw [ha, hd]; rfl)
      obtain ⟨a1, a2, b1, b2, -⟩ := ratB_t ha
      obtain ⟨k1, k2, d1, d2, -⟩ := ratB_t hd
      have HA := Lib.hid ha
      have HD := Lib.hid hd
      clear ha hd
      have p0 := mul_abs (a := a) (n := c) (A := 1000000000) (N := 1000000000) (by omega) (by omega)
      have l0 : -1000000000000000000 ≤ a * c := by omega
      have u0 : a * c ≤ 1000000000000000000 := by omega
      clear p0
      have p1 := mul_abs (a := b) (n := d) (A := 1000000000) (N := 1000000000) (by omega) (by omega)
      have l1 : -1000000000000000000 ≤ b * d := by omega
      have u1 : b * d ≤ 1000000000000000000 := by omega
      clear p1
      have z : ¬ b * d = 0 := by have := Int.mul_pos (show 0 < b by omega) (show 0 < d by omega); omega
      obtain ⟨U, hU⟩ : ∃ U, mkT (a * c) (b * d) = U := ⟨_, rfl⟩
      rw [hU] at HT
      have HU := Lib.hid hU
      clear hU
      go_enter Try.func45, Try.ntmps45
      go_wp2_with fail
      obtain ⟨W, hW⟩ : ∃ W, W = (((w.alloc (.cells #[.int .i64 a, .int .i64 b] 42)).alloc (.cells #[.int .i64 c, .int .i64 d] 42)).alloc (.cells #[.int .i64 0, .int .i64 0] 42)) := ⟨_, rfl⟩
      have c0 : W.cell? ⟨w.heap.size, 0, none⟩ = some (.int .i64 a) := by rw [hW]; simp [go_sem]
      have c1 : W.cell? ⟨w.heap.size, 1, none⟩ = some (.int .i64 b) := by rw [hW]; simp [go_sem]
      have c2 : W.cell? ⟨w.heap.size + 1, 0, none⟩ = some (.int .i64 c) := by rw [hW]; simp [go_sem]
      have c3 : W.cell? ⟨w.heap.size + 1, 1, none⟩ = some (.int .i64 d) := by rw [hW]; simp [go_sem]
      have c4 : W.cell? ⟨w.heap.size + 2, 0, none⟩ = some (.int .i64 0) := by rw [hW]; simp [go_sem]
      have c5 : W.cell? ⟨w.heap.size + 2, 1, none⟩ = some (.int .i64 0) := by rw [hW]; simp [go_sem]
      have f0 : W.frozen? ⟨w.heap.size + 2, 0, none⟩ = false := by rw [hW]; simp [go_sem]
      have f1 : W.frozen? ⟨w.heap.size + 2, 1, none⟩ = false := by rw [hW]; simp [go_sem]
      have HB : Hid (Below w.heap.size w W) := Lib.hid (by rw [hW]; exact (by repeat (first | exact Below.refl _ _ | (refine Below.alloc ?_ (by simp <;> omega) _) | (refine Below.setCell ?_ (by simp <;> omega) _) | (refine Below.drew ?_) | (refine bel_drewN ?_ _))))
      have hlt : w.heap.size ≤ W.heap.size := HB.out.size
      rw [← hW]
      clear hW
      refine (srt_is HA.out _).mono ?_
      rintro e w1 ⟨rfl, hb⟩
      replace f0 := kp_fr f0 c4 hb
      replace f1 := kp_fr f1 c5 hb
      replace c0 := kp1 c0 hb
      replace c1 := kp1 c1 hb
      replace c2 := kp1 c2 hb
      replace c3 := kp1 c3 hb
      replace c4 := kp1 c4 hb
      replace c5 := kp1 c5 hb
      replace HB := Lib.hid (bel_end HB.out hb)
      clear hb
      go_wp2_with fail
      refine (srt_is HD.out _).mono ?_
      rintro e w2 ⟨rfl, hb⟩
      replace f0 := kp_fr f0 c4 hb
      replace f1 := kp_fr f1 c5 hb
      replace c0 := kp1 c0 hb
      replace c1 := kp1 c1 hb
      replace c2 := kp1 c2 hb
      replace c3 := kp1 c3 hb
      replace c4 := kp1 c4 hb
      replace c5 := kp1 c5 hb
      replace HB := Lib.hid (bel_end HB.out hb)
      clear hb
      go_wp2_with fail
      refine (lmk_is HU.out (by omega) (by omega) (by omega) (by omega) z _).mono ?_
      rintro e w3 ⟨rfl, hb⟩
      replace f0 := kp_fr f0 c4 hb
      replace f1 := kp_fr f1 c5 hb
      replace c0 := kp1 c0 hb
      replace c1 := kp1 c1 hb
      replace c2 := kp1 c2 hb
      replace c3 := kp1 c3 hb
      replace c4 := kp1 c4 hb
      replace c5 := kp1 c5 hb
      replace HB := Lib.hid (bel_end HB.out hb)
      clear hb
      go_wp2
      exact bodyPost_ret (v := .tuple #[.agg #[.int .i64 U.1, .int .i64 U.2.1], .int .i64 U.2.2]) (by simp [results, Try.results45, go_sem, c4, c5]) rfl ⟨resT_eq HT.out, (by repeat (first | exact HB.out | (refine Below.setCell ?_ (by simp <;> omega) _) | (refine Below.alloc ?_ (by simp <;> omega) _) | (refine Below.drew ?_)))⟩

set_option maxHeartbeats 2000000 in
theorem sme_any (a b c d : Int) (w : World) :
    Calls Try.prog 48 #[.agg #[.int .i64 a, .int .i64 b], .agg #[.int .i64 c, .int .i64 d]] w fun e w' => e = .returned (.tuple #[.agg #[.int .i64 (medT a b c d).1, .int .i64 (medT a b c d).2.1], .int .i64 (medT a b c d).2.2]) ∧ Below w.heap.size w w' := by
  cases ha : ratB a b
  · have HT : Hid (medT a b c d = (0, 0, 1)) := Lib.hid (by unfold medT; rw [ha]; rfl)
    have HA := Lib.hid ha
    clear ha
    go_enter Try.func48, Try.ntmps48
    go_wp2_with fail
    obtain ⟨W, hW⟩ : ∃ W, W = (((w.alloc (.cells #[.int .i64 a, .int .i64 b] 42)).alloc (.cells #[.int .i64 c, .int .i64 d] 42)).alloc (.cells #[.int .i64 0, .int .i64 0] 42)) := ⟨_, rfl⟩
    have c0 : W.cell? ⟨w.heap.size, 0, none⟩ = some (.int .i64 a) := by rw [hW]; simp [go_sem]
    have c1 : W.cell? ⟨w.heap.size, 1, none⟩ = some (.int .i64 b) := by rw [hW]; simp [go_sem]
    have c2 : W.cell? ⟨w.heap.size + 1, 0, none⟩ = some (.int .i64 c) := by rw [hW]; simp [go_sem]
    have c3 : W.cell? ⟨w.heap.size + 1, 1, none⟩ = some (.int .i64 d) := by rw [hW]; simp [go_sem]
    have c4 : W.cell? ⟨w.heap.size + 2, 0, none⟩ = some (.int .i64 0) := by rw [hW]; simp [go_sem]
    have c5 : W.cell? ⟨w.heap.size + 2, 1, none⟩ = some (.int .i64 0) := by rw [hW]; simp [go_sem]
    have f0 : W.frozen? ⟨w.heap.size + 2, 0, none⟩ = false := by rw [hW]; simp [go_sem]
    have f1 : W.frozen? ⟨w.heap.size + 2, 1, none⟩ = false := by rw [hW]; simp [go_sem]
    have HB : Hid (Below w.heap.size w W) := Lib.hid (by rw [hW]; exact (by repeat (first | exact Below.refl _ _ | (refine Below.alloc ?_ (by simp <;> omega) _) | (refine Below.setCell ?_ (by simp <;> omega) _) | (refine Below.drew ?_) | (refine bel_drewN ?_ _))))
    have hlt : w.heap.size ≤ W.heap.size := HB.out.size
    rw [← hW]
    clear hW
    refine (srt_is HA.out _).mono ?_
    rintro e w1 ⟨rfl, hb⟩
    replace f0 := kp_fr f0 c4 hb
    replace f1 := kp_fr f1 c5 hb
    replace c0 := kp1 c0 hb
    replace c1 := kp1 c1 hb
    replace c2 := kp1 c2 hb
    replace c3 := kp1 c3 hb
    replace c4 := kp1 c4 hb
    replace c5 := kp1 c5 hb
    replace HB := Lib.hid (bel_end HB.out hb)
    clear hb
    go_wp2
    exact bodyPost_ret (v := .tuple #[.agg #[.int .i64 0, .int .i64 0], .int .i64 1]) (by simp [results, Try.results48, go_sem, c4, c5]) rfl ⟨resT_of HT.out, (by repeat (first | exact HB.out | (refine Below.setCell ?_ (by simp <;> omega) _) | (refine Below.alloc ?_ (by simp <;> omega) _) | (refine Below.drew ?_)))⟩
  · cases hd : ratB c d
    · have HT : Hid (medT a b c d = (0, 0, 1)) := Lib.hid (by unfold medT; rw [ha, hd]; rfl)
      have HA := Lib.hid ha
      have HD := Lib.hid hd
      clear ha hd
      go_enter Try.func48, Try.ntmps48
      go_wp2_with fail
      obtain ⟨W, hW⟩ : ∃ W, W = (((w.alloc (.cells #[.int .i64 a, .int .i64 b] 42)).alloc (.cells #[.int .i64 c, .int .i64 d] 42)).alloc (.cells #[.int .i64 0, .int .i64 0] 42)) := ⟨_, rfl⟩
      have c0 : W.cell? ⟨w.heap.size, 0, none⟩ = some (.int .i64 a) := by rw [hW]; simp [go_sem]
      have c1 : W.cell? ⟨w.heap.size, 1, none⟩ = some (.int .i64 b) := by rw [hW]; simp [go_sem]
      have c2 : W.cell? ⟨w.heap.size + 1, 0, none⟩ = some (.int .i64 c) := by rw [hW]; simp [go_sem]
      have c3 : W.cell? ⟨w.heap.size + 1, 1, none⟩ = some (.int .i64 d) := by rw [hW]; simp [go_sem]
      have c4 : W.cell? ⟨w.heap.size + 2, 0, none⟩ = some (.int .i64 0) := by rw [hW]; simp [go_sem]
      have c5 : W.cell? ⟨w.heap.size + 2, 1, none⟩ = some (.int .i64 0) := by rw [hW]; simp [go_sem]
      have f0 : W.frozen? ⟨w.heap.size + 2, 0, none⟩ = false := by rw [hW]; simp [go_sem]
      have f1 : W.frozen? ⟨w.heap.size + 2, 1, none⟩ = false := by rw [hW]; simp [go_sem]
      have HB : Hid (Below w.heap.size w W) := Lib.hid (by rw [hW]; exact (by repeat (first | exact Below.refl _ _ | (refine Below.alloc ?_ (by simp <;> omega) _) | (refine Below.setCell ?_ (by simp <;> omega) _) | (refine Below.drew ?_) | (refine bel_drewN ?_ _))))
      have hlt : w.heap.size ≤ W.heap.size := HB.out.size
      rw [← hW]
      clear hW
      refine (srt_is HA.out _).mono ?_
      rintro e w1 ⟨rfl, hb⟩
      replace f0 := kp_fr f0 c4 hb
      replace f1 := kp_fr f1 c5 hb
      replace c0 := kp1 c0 hb
      replace c1 := kp1 c1 hb
      replace c2 := kp1 c2 hb
      replace c3 := kp1 c3 hb
      replace c4 := kp1 c4 hb
      replace c5 := kp1 c5 hb
      replace HB := Lib.hid (bel_end HB.out hb)
      clear hb
      go_wp2_with fail
      refine (srt_is HD.out _).mono ?_
      rintro e w2 ⟨rfl, hb⟩
      replace f0 := kp_fr f0 c4 hb
      replace f1 := kp_fr f1 c5 hb
      replace c0 := kp1 c0 hb
      replace c1 := kp1 c1 hb
      replace c2 := kp1 c2 hb
      replace c3 := kp1 c3 hb
      replace c4 := kp1 c4 hb
      replace c5 := kp1 c5 hb
      replace HB := Lib.hid (bel_end HB.out hb)
      clear hb
      go_wp2
      exact bodyPost_ret (v := .tuple #[.agg #[.int .i64 0, .int .i64 0], .int .i64 1]) (by simp [results, Try.results48, go_sem, c4, c5]) rfl ⟨resT_of HT.out, (by repeat (first | exact HB.out | (refine Below.setCell ?_ (by simp <;> omega) _) | (refine Below.alloc ?_ (by simp <;> omega) _) | (refine Below.drew ?_)))⟩
    · have HT : Hid (medT a b c d = mkT (a + c) (b + d)) := Lib.hid (by unfold medT; rw [ha, hd]; rfl)
      obtain ⟨a1, a2, b1, b2, -⟩ := ratB_t ha
      obtain ⟨k1, k2, d1, d2, -⟩ := ratB_t hd
      have HA := Lib.hid ha
      have HD := Lib.hid hd
      clear ha hd
      have z : ¬ b + d = 0 := by omega
      obtain ⟨U, hU⟩ : ∃ U, mkT (a + c) (b + d) = U := ⟨_, rfl⟩
      rw [hU] at HT
      have HU := Lib.hid hU
      clear hU
      go_enter Try.func48, Try.ntmps48
      go_wp2_with fail
      obtain ⟨W, hW⟩ : ∃ W, W = (((w.alloc (.cells #[.int .i64 a, .int .i64 b] 42)).alloc (.cells #[.int .i64 c, .int .i64 d] 42)).alloc (.cells #[.int .i64 0, .int .i64 0] 42)) := ⟨_, rfl⟩
      have c0 : W.cell? ⟨w.heap.size, 0, none⟩ = some (.int .i64 a) := by rw [hW]; simp [go_sem]
      have c1 : W.cell? ⟨w.heap.size, 1, none⟩ = some (.int .i64 b) := by rw [hW]; simp [go_sem]
      have c2 : W.cell? ⟨w.heap.size + 1, 0, none⟩ = some (.int .i64 c) := by rw [hW]; simp [go_sem]
      have c3 : W.cell? ⟨w.heap.size + 1, 1, none⟩ = some (.int .i64 d) := by rw [hW]; simp [go_sem]
      have c4 : W.cell? ⟨w.heap.size + 2, 0, none⟩ = some (.int .i64 0) := by rw [hW]; simp [go_sem]
      have c5 : W.cell? ⟨w.heap.size + 2, 1, none⟩ = some (.int .i64 0) := by rw [hW]; simp [go_sem]
      have f0 : W.frozen? ⟨w.heap.size + 2, 0, none⟩ = false := by rw [hW]; simp [go_sem]
      have f1 : W.frozen? ⟨w.heap.size + 2, 1, none⟩ = false := by rw [hW]; simp [go_sem]
      have HB : Hid (Below w.heap.size w W) := Lib.hid (by rw [hW]; exact (by repeat (first | exact Below.refl _ _ | (refine Below.alloc ?_ (by simp <;> omega) _) | (refine Below.setCell ?_ (by simp <;> omega) _) | (refine Below.drew ?_) | (refine bel_drewN ?_ _))))
      have hlt : w.heap.size ≤ W.heap.size := HB.out.size
      rw [← hW]
      clear hW
      refine (srt_is HA.out _).mono ?_
      rintro e w1 ⟨rfl, hb⟩
      replace f0 := kp_fr f0 c4 hb
      replace f1 := kp_fr f1 c5 hb
      replace c0 := kp1 c0 hb
      replace c1 := kp1 c1 hb
      replace c2 := kp1 c2 hb
      replace c3 := kp1 c3 hb
      replace c4 := kp1 c4 hb
      replace c5 := kp1 c5 hb
      replace HB := Lib.hid (bel_end HB.out hb)
      clear hb
      go_wp2_with fail
      refine (srt_is HD.out _).mono ?_
      rintro e w2 ⟨rfl, hb⟩
      replace f0 := kp_fr f0 c4 hb
      replace f1 := kp_fr f1 c5 hb
      replace c0 := kp1 c0 hb
      replace c1 := kp1 c1 hb
      replace c2 := kp1 c2 hb
      replace c3 := kp1 c3 hb
      replace c4 := kp1 c4 hb
      replace c5 := kp1 c5 hb
      replace HB := Lib.hid (bel_end HB.out hb)
      clear hb
      go_wp2_with fail
      refine (lmk_is HU.out (by omega) (by omega) (by omega) (by omega) z _).mono ?_
      rintro e w3 ⟨rfl, hb⟩
      replace f0 := kp_fr f0 c4 hb
      replace f1 := kp_fr f1 c5 hb
      replace c0 := kp1 c0 hb
      replace c1 := kp1 c1 hb
      replace c2 := kp1 c2 hb
      replace c3 := kp1 c3 hb
      replace c4 := kp1 c4 hb
      replace c5 := kp1 c5 hb
      replace HB := Lib.hid (bel_end HB.out hb)
      clear hb
      go_wp2
      exact bodyPost_ret (v := .tuple #[.agg #[.int .i64 U.1, .int .i64 U.2.1], .int .i64 U.2.2]) (by simp [results, Try.results48, go_sem, c4, c5]) rfl ⟨resT_eq HT.out, (by repeat (first | exact HB.out | (refine Below.setCell ?_ (by simp <;> omega) _) | (refine Below.alloc ?_ (by simp <;> omega) _) | (refine Below.drew ?_)))⟩

set_option maxHeartbeats 1000000 in
theorem iiv_any (a b : Int) (w : World) :
    Calls Try.prog 35 #[.agg #[.int .i64 a, .int .i64 b]] w fun e w' => e = .returned (.tuple #[.agg #[.int .i64 (invT a b).1, .int .i64 (invT a b).2.1], .int .i64 (invT a b).2.2]) ∧ Below w.heap.size w w' := by
  cases ha : ratB a b
  · have HT : Hid (invT a b = (0, 0, 1)) := Lib.hid (by unfold invT; rw [ha]; rfl)
    have HA := Lib.hid ha
    clear ha
    go_enter Try.func35, Try.ntmps35
    go_wp2_with fail
    obtain ⟨W, hW⟩ : ∃ W, W = ((w.alloc (.cells #[.int .i64 a, .int .i64 b] 42)).alloc (.cells #[.int .i64 0, .int .i64 0] 42)) := ⟨_, rfl⟩
    have c0 : W.cell? ⟨w.heap.size, 0, none⟩ = some (.int .i64 a) := by rw [hW]; simp [go_sem]
    have c1 : W.cell? ⟨w.heap.size, 1, none⟩ = some (.int .i64 b) := by rw [hW]; simp [go_sem]
    have c2 : W.cell? ⟨w.heap.size + 1, 0, none⟩ = some (.int .i64 0) := by rw [hW]; simp [go_sem]
    have c3 : W.cell? ⟨w.heap.size + 1, 1, none⟩ = some (.int .i64 0) := by rw [hW]; simp [go_sem]
    have f0 : W.frozen? ⟨w.heap.size + 1, 0, none⟩ = false := by rw [hW]; simp [go_sem]
    have f1 : W.frozen? ⟨w.heap.size + 1, 1, none⟩ = false := by rw [hW]; simp [go_sem]
    have HB : Hid (Below w.heap.size w W) := Lib.hid (by rw [hW]; exact (by repeat (first | exact Below.refl _ _ | (refine Below.alloc ?_ (by simp <;> omega) _) | (refine Below.setCell ?_ (by simp <;> omega) _) | (refine Below.drew ?_) | (refine bel_drewN ?_ _))))
    have hlt : w.heap.size ≤ W.heap.size := HB.out.size
    rw [← hW]
    clear hW
    refine (irt_is HA.out _).mono ?_
    rintro e w1 ⟨rfl, hb⟩
    replace f0 := kp_fr f0 c2 hb
    replace f1 := kp_fr f1 c3 hb
    replace c0 := kp1 c0 hb
    replace c1 := kp1 c1 hb
    replace c2 := kp1 c2 hb
    replace c3 := kp1 c3 hb
    replace HB := Lib.hid (bel_end HB.out hb)
    clear hb
    go_wp2
    exact bodyPost_ret (v := .tuple #[.agg #[.int .i64 0, .int .i64 0], .int .i64 1]) (by simp [results, Try.results35, go_sem, c2, c3]) rfl ⟨resT_of HT.out, (by repeat (first | exact HB.out | (refine Below.setCell ?_ (by simp <;> omega) _) | (refine Below.alloc ?_ (by simp <;> omega) _) | (refine Below.drew ?_)))⟩
  · by_cases h0 : a = 0
    · have HT : Hid (invT a b = (0, 0, 5)) := Lib.hid (by unfold invT; rw [ha, if_pos h0]; rfl)
      subst h0
      have HA := Lib.hid ha
      clear ha
      go_enter Try.func35, Try.ntmps35
      go_wp2_with fail
      obtain ⟨W, hW⟩ : ∃ W, W = ((w.alloc (.cells #[.int .i64 0, .int .i64 b] 42)).alloc (.cells #[.int .i64 0, .int .i64 0] 42)) := ⟨_, rfl⟩
      have c0 : W.cell? ⟨w.heap.size, 0, none⟩ = some (.int .i64 0) := by rw [hW]; simp [go_sem]
      have c1 : W.cell? ⟨w.heap.size, 1, none⟩ = some (.int .i64 b) := by rw [hW]; simp [go_sem]
      have c2 : W.cell? ⟨w.heap.size + 1, 0, none⟩ = some (.int .i64 0) := by rw [hW]; simp [go_sem]
      have c3 : W.cell? ⟨w.heap.size + 1, 1, none⟩ = some (.int .i64 0) := by rw [hW]; simp [go_sem]
      have f0 : W.frozen? ⟨w.heap.size + 1, 0, none⟩ = false := by rw [hW]; simp [go_sem]
      have f1 : W.frozen? ⟨w.heap.size + 1, 1, none⟩ = false := by rw [hW]; simp [go_sem]
      have HB : Hid (Below w.heap.size w W) := Lib.hid (by rw [hW]; exact (by repeat (first | exact Below.refl _ _ | (refine Below.alloc ?_ (by simp <;> omega) _) | (refine Below.setCell ?_ (by simp <;> omega) _) | (refine Below.drew ?_) | (refine bel_drewN ?_ _))))
      have hlt : w.heap.size ≤ W.heap.size := HB.out.size
      rw [← hW]
      clear hW
      refine (irt_is HA.out _).mono ?_
      rintro e w1 ⟨rfl, hb⟩
      replace f0 := kp_fr f0 c2 hb
      replace f1 := kp_fr f1 c3 hb
      replace c0 := kp1 c0 hb
      replace c1 := kp1 c1 hb
      replace c2 := kp1 c2 hb
      replace c3 := kp1 c3 hb
      replace HB := Lib.hid (bel_end HB.out hb)
      clear hb
      go_wp2
      exact bodyPost_ret (v := .tuple #[.agg #[.int .i64 0, .int .i64 0], .int .i64 5]) (by simp [results, Try.results35, go_sem, c2, c3]) rfl ⟨resT_of HT.out, (by repeat (first | exact HB.out | (refine Below.setCell ?_ (by simp <;> omega) _) | (refine Below.alloc ?_ (by simp <;> omega) _) | (refine Below.drew ?_)))⟩
    · have HT : Hid (invT a b = mkT b a) := Lib.hid (by unfold invT; rw [ha, if_neg h0]; rfl)
      have hz : (a == 0) = false := by simpa using h0
      obtain ⟨a1, a2, b1, b2, -⟩ := ratB_t ha
      have HA := Lib.hid ha
      clear ha
      obtain ⟨U, hU⟩ : ∃ U, mkT b a = U := ⟨_, rfl⟩
      rw [hU] at HT
      have HU := Lib.hid hU
      clear hU
      go_enter Try.func35, Try.ntmps35
      go_wp2_with fail
      obtain ⟨W, hW⟩ : ∃ W, W = ((w.alloc (.cells #[.int .i64 a, .int .i64 b] 42)).alloc (.cells #[.int .i64 0, .int .i64 0] 42)) := ⟨_, rfl⟩
      have c0 : W.cell? ⟨w.heap.size, 0, none⟩ = some (.int .i64 a) := by rw [hW]; simp [go_sem]
      have c1 : W.cell? ⟨w.heap.size, 1, none⟩ = some (.int .i64 b) := by rw [hW]; simp [go_sem]
      have c2 : W.cell? ⟨w.heap.size + 1, 0, none⟩ = some (.int .i64 0) := by rw [hW]; simp [go_sem]
      have c3 : W.cell? ⟨w.heap.size + 1, 1, none⟩ = some (.int .i64 0) := by rw [hW]; simp [go_sem]
      have f0 : W.frozen? ⟨w.heap.size + 1, 0, none⟩ = false := by rw [hW]; simp [go_sem]
      have f1 : W.frozen? ⟨w.heap.size + 1, 1, none⟩ = false := by rw [hW]; simp [go_sem]
      have HB : Hid (Below w.heap.size w W) := Lib.hid (by rw [hW]; exact (by repeat (first | exact Below.refl _ _ | (refine Below.alloc ?_ (by simp <;> omega) _) | (refine Below.setCell ?_ (by simp <;> omega) _) | (refine Below.drew ?_) | (refine bel_drewN ?_ _))))
      have hlt : w.heap.size ≤ W.heap.size := HB.out.size
      rw [← hW]
      clear hW
      refine (irt_is HA.out _).mono ?_
      rintro e w1 ⟨rfl, hb⟩
      replace f0 := kp_fr f0 c2 hb
      replace f1 := kp_fr f1 c3 hb
      replace c0 := kp1 c0 hb
      replace c1 := kp1 c1 hb
      replace c2 := kp1 c2 hb
      replace c3 := kp1 c3 hb
      replace HB := Lib.hid (bel_end HB.out hb)
      clear hb
      go_wp2_with fail
      refine (rof_is HU.out (by omega) (by omega) (by omega) (by omega) h0 _).mono ?_
      rintro e w2 ⟨rfl, hb⟩
      replace f0 := kp_fr f0 c2 hb
      replace f1 := kp_fr f1 c3 hb
      replace c0 := kp1 c0 hb
      replace c1 := kp1 c1 hb
      replace c2 := kp1 c2 hb
      replace c3 := kp1 c3 hb
      replace HB := Lib.hid (bel_end HB.out hb)
      clear hb
      go_wp2
      exact bodyPost_ret (v := .tuple #[.agg #[.int .i64 U.1, .int .i64 U.2.1], .int .i64 U.2.2]) (by simp [results, Try.results35, go_sem, c2, c3]) rfl ⟨resT_eq HT.out, (by repeat (first | exact HB.out | (refine Below.setCell ?_ (by simp <;> omega) _) | (refine Below.alloc ?_ (by simp <;> omega) _) | (refine Below.drew ?_)))⟩

set_option maxHeartbeats 1000000 in
theorem siv_any (a b : Int) (w : World) :
    Calls Try.prog 36 #[.agg #[.int .i64 a, .int .i64 b]] w fun e w' => e = .returned (.tuple #[.agg #[.int .i64 (invT a b).1, .int .i64 (invT a b).2.1], .int .i64 (invT a b).2.2]) ∧ Below w.heap.size w w' := by
  cases ha : ratB a b
  · have HT : Hid (invT a b = (0, 0, 1)) := Lib.hid (by unfold invT; rw [ha]; rfl)
    have HA := Lib.hid ha
    clear ha
    go_enter Try.func36, Try.ntmps36
    go_wp2_with fail
    obtain ⟨W, hW⟩ : ∃ W, W = ((w.alloc (.cells #[.int .i64 a, .int .i64 b] 42)).alloc (.cells #[.int .i64 0, .int .i64 0] 42)) := ⟨_, rfl⟩
    have c0 : W.cell? ⟨w.heap.size, 0, none⟩ = some (.int .i64 a) := by rw [hW]; simp [go_sem]
    have c1 : W.cell? ⟨w.heap.size, 1, none⟩ = some (.int .i64 b) := by rw [hW]; simp [go_sem]
    have c2 : W.cell? ⟨w.heap.size + 1, 0, none⟩ = some (.int .i64 0) := by rw [hW]; simp [go_sem]
    have c3 : W.cell? ⟨w.heap.size + 1, 1, none⟩ = some (.int .i64 0) := by rw [hW]; simp [go_sem]
    have f0 : W.frozen? ⟨w.heap.size + 1, 0, none⟩ = false := by rw [hW]; simp [go_sem]
    have f1 : W.frozen? ⟨w.heap.size + 1, 1, none⟩ = false := by rw [hW]; simp [go_sem]
    have HB : Hid (Below w.heap.size w W) := Lib.hid (by rw [hW]; exact (by repeat (first | exact Below.refl _ _ | (refine Below.alloc ?_ (by simp <;> omega) _) | (refine Below.setCell ?_ (by simp <;> omega) _) | (refine Below.drew ?_) | (refine bel_drewN ?_ _))))
    have hlt : w.heap.size ≤ W.heap.size := HB.out.size
    rw [← hW]
    clear hW
    refine (srt_is HA.out _).mono ?_
    rintro e w1 ⟨rfl, hb⟩
    replace f0 := kp_fr f0 c2 hb
    replace f1 := kp_fr f1 c3 hb
    replace c0 := kp1 c0 hb
    replace c1 := kp1 c1 hb
    replace c2 := kp1 c2 hb
    replace c3 := kp1 c3 hb
    replace HB := Lib.hid (bel_end HB.out hb)
    clear hb
    go_wp2
    exact bodyPost_ret (v := .tuple #[.agg #[.int .i64 0, .int .i64 0], .int .i64 1]) (by simp [results, Try.results36, go_sem, c2, c3]) rfl ⟨resT_of HT.out, (by repeat (first | exact HB.out | (refine Below.setCell ?_ (by simp <;> omega) _) | (refine Below.alloc ?_ (by simp <;> omega) _) | (refine Below.drew ?_)))⟩
  · by_cases h0 : a = 0
    · have HT : Hid (invT a b = (0, 0, 5)) := Lib.hid (by unfold invT; rw [ha, if_pos h0]; rfl)
      subst h0
      have HA := Lib.hid ha
      clear ha
      go_enter Try.func36, Try.ntmps36
      go_wp2_with fail
      obtain ⟨W, hW⟩ : ∃ W, W = ((w.alloc (.cells #[.int .i64 0, .int .i64 b] 42)).alloc (.cells #[.int .i64 0, .int .i64 0] 42)) := ⟨_, rfl⟩
      have c0 : W.cell? ⟨w.heap.size, 0, none⟩ = some (.int .i64 0) := by rw [hW]; simp [go_sem]
      have c1 : W.cell? ⟨w.heap.size, 1, none⟩ = some (.int .i64 b) := by rw [hW]; simp [go_sem]
      have c2 : W.cell? ⟨w.heap.size + 1, 0, none⟩ = some (.int .i64 0) := by rw [hW]; simp [go_sem]
      have c3 : W.cell? ⟨w.heap.size + 1, 1, none⟩ = some (.int .i64 0) := by rw [hW]; simp [go_sem]
      have f0 : W.frozen? ⟨w.heap.size + 1, 0, none⟩ = false := by rw [hW]; simp [go_sem]
      have f1 : W.frozen? ⟨w.heap.size + 1, 1, none⟩ = false := by rw [hW]; simp [go_sem]
      have HB : Hid (Below w.heap.size w W) := Lib.hid (by rw [hW]; exact (by repeat (first | exact Below.refl _ _ | (refine Below.alloc ?_ (by simp <;> omega) _) | (refine Below.setCell ?_ (by simp <;> omega) _) | (refine Below.drew ?_) | (refine bel_drewN ?_ _))))
      have hlt : w.heap.size ≤ W.heap.size := HB.out.size
      rw [← hW]
      clear hW
      refine (srt_is HA.out _).mono ?_
      rintro e w1 ⟨rfl, hb⟩
      replace f0 := kp_fr f0 c2 hb
      replace f1 := kp_fr f1 c3 hb
      replace c0 := kp1 c0 hb
      replace c1 := kp1 c1 hb
      replace c2 := kp1 c2 hb
      replace c3 := kp1 c3 hb
      replace HB := Lib.hid (bel_end HB.out hb)
      clear hb
      go_wp2
      exact bodyPost_ret (v := .tuple #[.agg #[.int .i64 0, .int .i64 0], .int .i64 5]) (by simp [results, Try.results36, go_sem, c2, c3]) rfl ⟨resT_of HT.out, (by repeat (first | exact HB.out | (refine Below.setCell ?_ (by simp <;> omega) _) | (refine Below.alloc ?_ (by simp <;> omega) _) | (refine Below.drew ?_)))⟩
    · have HT : Hid (invT a b = mkT b a) := Lib.hid (by unfold invT; rw [ha, if_neg h0]; rfl)
      have hz : (a == 0) = false := by simpa using h0
      obtain ⟨a1, a2, b1, b2, -⟩ := ratB_t ha
      have HA := Lib.hid ha
      clear ha
      obtain ⟨U, hU⟩ : ∃ U, mkT b a = U := ⟨_, rfl⟩
      rw [hU] at HT
      have HU := Lib.hid hU
      clear hU
      go_enter Try.func36, Try.ntmps36
      go_wp2_with fail
      obtain ⟨W, hW⟩ : ∃ W, W = ((w.alloc (.cells #[.int .i64 a, .int .i64 b] 42)).alloc (.cells #[.int .i64 0, .int .i64 0] 42)) := ⟨_, rfl⟩
      have c0 : W.cell? ⟨w.heap.size, 0, none⟩ = some (.int .i64 a) := by rw [hW]; simp [go_sem]
      have c1 : W.cell? ⟨w.heap.size, 1, none⟩ = some (.int .i64 b) := by rw [hW]; simp [go_sem]
      have c2 : W.cell? ⟨w.heap.size + 1, 0, none⟩ = some (.int .i64 0) := by rw [hW]; simp [go_sem]
      have c3 : W.cell? ⟨w.heap.size + 1, 1, none⟩ = some (.int .i64 0) := by rw [hW]; simp [go_sem]
      have f0 : W.frozen? ⟨w.heap.size + 1, 0, none⟩ = false := by rw [hW]; simp [go_sem]
      have f1 : W.frozen? ⟨w.heap.size + 1, 1, none⟩ = false := by rw [hW]; simp [go_sem]
      have HB : Hid (Below w.heap.size w W) := Lib.hid (by rw [hW]; exact (by repeat (first | exact Below.refl _ _ | (refine Below.alloc ?_ (by simp <;> omega) _) | (refine Below.setCell ?_ (by simp <;> omega) _) | (refine Below.drew ?_) | (refine bel_drewN ?_ _))))
      have hlt : w.heap.size ≤ W.heap.size := HB.out.size
      rw [← hW]
      clear hW
      refine (srt_is HA.out _).mono ?_
      rintro e w1 ⟨rfl, hb⟩
      replace f0 := kp_fr f0 c2 hb
      replace f1 := kp_fr f1 c3 hb
      replace c0 := kp1 c0 hb
      replace c1 := kp1 c1 hb
      replace c2 := kp1 c2 hb
      replace c3 := kp1 c3 hb
      replace HB := Lib.hid (bel_end HB.out hb)
      clear hb
      go_wp2_with fail
      refine (lmk_is HU.out (by omega) (by omega) (by omega) (by omega) h0 _).mono ?_
      rintro e w2 ⟨rfl, hb⟩
      replace f0 := kp_fr f0 c2 hb
      replace f1 := kp_fr f1 c3 hb
      replace c0 := kp1 c0 hb
      replace c1 := kp1 c1 hb
      replace c2 := kp1 c2 hb
      replace c3 := kp1 c3 hb
      replace HB := Lib.hid (bel_end HB.out hb)
      clear hb
      go_wp2
      exact bodyPost_ret (v := .tuple #[.agg #[.int .i64 U.1, .int .i64 U.2.1], .int .i64 U.2.2]) (by simp [results, Try.results36, go_sem, c2, c3]) rfl ⟨resT_eq HT.out, (by repeat (first | exact HB.out | (refine Below.setCell ?_ (by simp <;> omega) _) | (refine Below.alloc ?_ (by simp <;> omega) _) | (refine Below.drew ?_)))⟩

/-- the fraction of two numbers -/
def madT (n d : Int) : Int × Int × Int := if dcode n d = 0 then mkT n d else (0, 0, dcode n d)
theorem madT_no {n d c : Int} (h : dcode n d = c) (g : ¬ c = 0) : madT n d = (0, 0, c) := by unfold madT; rw [h, if_neg g]
theorem madT_ok {n d : Int} (h : dcode n d = 0) : madT n d = mkT n d := by unfold madT; rw [if_pos h]
theorem dcode_cases (n d : Int) : dcode n d = 0 ∨ dcode n d = 2 ∨ dcode n d = 5 := by
  unfold dcode; split
  · split <;> simp
  · simp
theorem diverr_is {a b c : Int} (h : dcode a b = c) (w : World) :
    Calls Try.prog 69 #[.int .i64 a, .int .i64 b] w fun e w' => e = .returned (.int .i64 c) ∧ w = w' := by subst h; exact diverr_any a b w
set_option maxHeartbeats 1000000 in
theorem imk_any (n d : Int) (w : World) :
    Calls Try.prog 32 #[.int .i64 n, .int .i64 d] w fun e w' => e = .returned (.tuple #[.agg #[.int .i64 (madT n d).1, .int .i64 (madT n d).2.1], .int .i64 (madT n d).2.2]) ∧ Below w.heap.size w w' := by
  rcases dcode_cases n d with h | h | h
  · have HT := madT_ok h
    obtain ⟨vn, vd, h0⟩ := dcode_0 h
    have bn := valB_t vn
    have bd := valB_t vd
    have HD := Lib.hid h
    obtain ⟨U, hU⟩ : ∃ U, mkT n d = U := ⟨_, rfl⟩
    rw [hU] at HT
    have HT := Lib.hid HT
    have HU := Lib.hid hU
    clear hU h vn vd
    go_enter Try.func32, Try.ntmps32
    go_wp2_with (go_at_call 69; refine (diverr_is HD.out _).mono ?_; rintro e w' ⟨rfl, rfl⟩)
    refine (rof_is HU.out (by omega) (by omega) (by omega) (by omega) h0 _).mono ?_
    rintro e w1 ⟨rfl, hb⟩
    obtain ⟨hc, hf, hz⟩ := bel_rules hb
    have HB := Lib.hid hb
    clear hb
    go_wp2
    exact bodyPost_ret (v := .tuple #[.agg #[.int .i64 U.1, .int .i64 U.2.1], .int .i64 U.2.2]) (by simp [results, Try.results32, go_sem, hc]) rfl ⟨resT_eq HT.out, (by repeat (first | exact bel_end (by repeat (first | exact Below.refl _ _ | (refine Below.alloc ?_ (by simp <;> omega) _) | (refine Below.setCell ?_ (by simp <;> omega) _) | (refine Below.drew ?_) | (refine bel_drewN ?_ _))) HB.out | (refine Below.setCell ?_ (by simp <;> omega) _) | (refine Below.alloc ?_ (by simp <;> omega) _) | (refine Below.drew ?_)))⟩
  · have HT := Lib.hid (madT_no h (by omega))
    have HD := Lib.hid h
    clear h
    go_enter Try.func32, Try.ntmps32
    go_wp2_with (go_at_call 69; refine (diverr_is HD.out _).mono ?_; rintro e w' ⟨rfl, rfl⟩)
    exact bodyPost_ret (v := .tuple #[.agg #[.int .i64 0, .int .i64 0], .int .i64 2]) (by simp [results, Try.results32, go_sem]) rfl ⟨resT_of HT.out, (by repeat (first | exact Below.refl _ _ | (refine Below.alloc ?_ (by simp <;> omega) _) | (refine Below.setCell ?_ (by simp <;> omega) _) | (refine Below.drew ?_) | (refine bel_drewN ?_ _)))⟩
  · have HT := Lib.hid (madT_no h (by omega))
    have HD := Lib.hid h
    clear h
    go_enter Try.func32, Try.ntmps32
    go_wp2_with (go_at_call 69; refine (diverr_is HD.out _).mono ?_; rintro e w' ⟨rfl, rfl⟩)
    exact bodyPost_ret (v := .tuple #[.agg #[.int .i64 0, .int .i64 0], .int .i64 5]) (by simp [results, Try.results32, go_sem]) rfl ⟨resT_of HT.out, (by repeat (first | exact Below.refl _ _ | (refine Below.alloc ?_ (by simp <;> omega) _) | (refine Below.setCell ?_ (by simp <;> omega) _) | (refine Below.drew ?_) | (refine bel_drewN ?_ _)))⟩

set_option maxHeartbeats 1000000 in
theorem smk_any (n d : Int) (w : World) :
    Calls Try.prog 33 #[.int .i64 n, .int .i64 d] w fun e w' => e = .returned (.tuple #[.agg #[.int .i64 (madT n d).1, .int .i64 (madT n d).2.1], .int .i64 (madT n d).2.2]) ∧ Below w.heap.size w w' := by
  cases vn : valB n <;> cases vd : valB d
  case true.true =>
    by_cases h0 : d = 0
    · have h : dcode n d = 5 := by unfold dcode; rw [vn, vd, h0]; rfl
      have HT := Lib.hid (madT_no h (by omega))
      clear h
      subst h0
      go_enter Try.func33, Try.ntmps33
      go_wp2_with (go_at_call 62; refine (isl_any _ _).mono ?_; rintro e w' ⟨rfl, rfl⟩)
      exact bodyPost_ret (v := .tuple #[.agg #[.int .i64 0, .int .i64 0], .int .i64 5]) (by simp [results, Try.results33, go_sem]) rfl ⟨resT_of HT.out, (by repeat (first | exact Below.refl _ _ | (refine Below.alloc ?_ (by simp <;> omega) _) | (refine Below.setCell ?_ (by simp <;> omega) _) | (refine Below.drew ?_) | (refine bel_drewN ?_ _)))⟩
    · have h : dcode n d = 0 := by unfold dcode; rw [vn, vd, show (d == 0) = false by simpa using h0]; rfl
      have HT := madT_ok h
      have hz : (d == 0) = false := by simpa using h0
      have bn := valB_t vn
      have bd := valB_t vd
      obtain ⟨U, hU⟩ : ∃ U, mkT n d = U := ⟨_, rfl⟩
      rw [hU] at HT
      have HT := Lib.hid HT
      have HU := Lib.hid hU
      clear hU h
      go_enter Try.func33, Try.ntmps33
      go_wp2_with (go_at_call 62; refine (isl_any _ _).mono ?_; rintro e w' ⟨rfl, rfl⟩)
      refine (lmk_is HU.out (by omega) (by omega) (by omega) (by omega) h0 _).mono ?_
      rintro e w1 ⟨rfl, hb⟩
      obtain ⟨hc, hf, hz⟩ := bel_rules hb
      have HB := Lib.hid hb
      clear hb
      go_wp2
      exact bodyPost_ret (v := .tuple #[.agg #[.int .i64 U.1, .int .i64 U.2.1], .int .i64 U.2.2]) (by simp [results, Try.results33, go_sem, hc]) rfl ⟨resT_eq HT.out, (by repeat (first | exact bel_end (by repeat (first | exact Below.refl _ _ | (refine Below.alloc ?_ (by simp <;> omega) _) | (refine Below.setCell ?_ (by simp <;> omega) _) | (refine Below.drew ?_) | (refine bel_drewN ?_ _))) HB.out | (refine Below.setCell ?_ (by simp <;> omega) _) | (refine Below.alloc ?_ (by simp <;> omega) _) | (refine Below.drew ?_)))⟩
  all_goals
    have h : dcode n d = 2 := by unfold dcode; rw [vn, vd]; rfl
    have HT := Lib.hid (madT_no h (by omega))
    clear h
    go_enter Try.func33, Try.ntmps33
    go_wp2_with (go_at_call 62; refine (isl_any _ _).mono ?_; rintro e w' ⟨rfl, rfl⟩)
    exact bodyPost_ret (v := .tuple #[.agg #[.int .i64 0, .int .i64 0], .int .i64 2]) (by simp [results, Try.results33, go_sem]) rfl ⟨resT_of HT.out, (by repeat (first | exact Below.refl _ _ | (refine Below.alloc ?_ (by simp <;> omega) _) | (refine Below.setCell ?_ (by simp <;> omega) _) | (refine Below.drew ?_) | (refine bel_drewN ?_ _)))⟩
end Go.Proofs.Ytkbgbhbnkffneaa
