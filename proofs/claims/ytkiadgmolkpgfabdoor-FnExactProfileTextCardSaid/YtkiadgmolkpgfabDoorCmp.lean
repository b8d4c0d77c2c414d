/- Contracts of compared fractions, the program's and the model's. -/
import Derived.Test.YtkiadgmolkpgfabDoorRat2
namespace Go.Proofs.YtkiadgmolkpgfabDoor
open Go.ChangeShapes Go.WideShapes Go.ChangeAt Go.RowKit Num
set_option linter.unusedVariables false
theorem sgn_lt {x y : Int} (h : x < y) : sgn x y = -1 := by unfold sgn; rw [if_pos h]
theorem sgn_gt {x y : Int} (h : y < x) : sgn x y = 1 := by unfold sgn; rw [if_neg (by omega), if_pos h]
theorem sgn_eq {x y : Int} (h : x = y) : sgn x y = 0 := by unfold sgn; rw [if_neg (by omega), if_neg (by omega)]
theorem nan_any (x : Int) (w : World) :
    Calls Tryd.prog 86 #[.int .i64 x] w fun e w' => e = .returned (.bool false) ∧ w = w' := by
  go_enter Tryd.func86, Tryd.ntmps86
  go_wp2
  go_ret
  exact ⟨ret_bool (by simp), rfl⟩
theorem cmpc_any (x y : Int) (w : World) :
    Calls Tryd.prog 68 #[.int .i64 x, .int .i64 y] w fun e w' => e = .returned (.int .i64 (sgn x y)) ∧ w = w' := by
  rcases Int.lt_trichotomy x y with h | h | h
  · have H := Lib.hid (sgn_lt h)
    go_enter Tryd.func68, Tryd.ntmps68
    go_wp2_with (go_at_call 86; refine (nan_any _ _).mono ?_; rintro e w' ⟨rfl, rfl⟩)
    go_ret
    exact ⟨ret_int H.out.symm, rfl⟩
  · have H := Lib.hid (sgn_eq h)
    go_enter Tryd.func68, Tryd.ntmps68
    go_wp2_with (go_at_call 86; refine (nan_any _ _).mono ?_; rintro e w' ⟨rfl, rfl⟩)
    go_ret
    exact ⟨ret_int H.out.symm, rfl⟩
  · have H := Lib.hid (sgn_gt h)
    go_enter Tryd.func68, Tryd.ntmps68
    go_wp2_with (go_at_call 86; refine (nan_any _ _).mono ?_; rintro e w' ⟨rfl, rfl⟩)
    go_ret
    exact ⟨ret_int H.out.symm, rfl⟩
theorem lcm_any (a b c d : Int) (ha : ratB a b = true) (hc : ratB c d = true) (w : World) :
    Calls Tryd.prog 69 #[.agg #[.int .i64 a, .int .i64 b], .agg #[.int .i64 c, .int .i64 d]] w fun e w' => e = .returned (.int .i64 (sgn (a * d) (c * b))) ∧ Below w.heap.size w w' := by
  obtain ⟨a1, a2, b1, b2, -⟩ := ratB_t ha
  obtain ⟨k1, k2, d1, d2, -⟩ := ratB_t hc
  have p0 := mul_abs (a := a) (n := d) (A := 1000000000) (N := 1000000000) (by omega) (by omega)
  have p1 := mul_abs (a := c) (n := b) (A := 1000000000) (N := 1000000000) (by omega) (by omega)
  have l0 : -1000000000000000000 ≤ a * d := by omega
  have u0 : a * d ≤ 1000000000000000000 := by omega
  have l1 : -1000000000000000000 ≤ c * b := by omega
  have u1 : c * b ≤ 1000000000000000000 := by omega
  clear p0 p1 ha hc
  rcases Int.lt_trichotomy (a * d) (c * b) with h | h | h
  · have H := Lib.hid (sgn_lt h)
    go_enter Tryd.func69, Tryd.ntmps69
    go_wp2_with fail
    go_quiet (fail)
    go_wp2
    go_ret
    exact ⟨ret_int H.out.symm, (by repeat (first | exact Below.refl _ _ | (refine Below.alloc ?_ (by simp <;> omega) _) | (refine Below.setCell ?_ (by simp <;> omega) _) | (refine Below.drew ?_) | (refine bel_drewN ?_ _)))⟩
  · have H := Lib.hid (sgn_eq h)
    go_enter Tryd.func69, Tryd.ntmps69
    go_wp2_with fail
    go_quiet (fail)
    go_wp2
    go_ret
    exact ⟨ret_int H.out.symm, (by repeat (first | exact Below.refl _ _ | (refine Below.alloc ?_ (by simp <;> omega) _) | (refine Below.setCell ?_ (by simp <;> omega) _) | (refine Below.drew ?_) | (refine bel_drewN ?_ _)))⟩
  · have H := Lib.hid (sgn_gt h)
    go_enter Tryd.func69, Tryd.ntmps69
    go_wp2_with fail
    go_quiet (fail)
    go_wp2
    go_ret
    exact ⟨ret_int H.out.symm, (by repeat (first | exact Below.refl _ _ | (refine Below.alloc ?_ (by simp <;> omega) _) | (refine Below.setCell ?_ (by simp <;> omega) _) | (refine Below.drew ?_) | (refine bel_drewN ?_ _)))⟩

set_option maxHeartbeats 1000000 in
theorem icr_any (a b c d : Int) (w : World) :
    Calls Tryd.prog 33 #[.agg #[.int .i64 a, .int .i64 b], .agg #[.int .i64 c, .int .i64 d]] w fun e w' => e = .returned (.tuple #[.int .i64 (cmpV a b c d), .int .i64 (cmpC a b c d)]) ∧ Below w.heap.size w w' := by
  cases ha : ratB a b
  · have HV : Hid (cmpV a b c d = 0 ∧ cmpC a b c d = 1) := Lib.hid ⟨by unfold cmpV; rw [ha]; rfl, by unfold cmpC; rw [ha]; rfl⟩
    have HA := Lib.hid ha
    clear ha
    go_enter Tryd.func33, Tryd.ntmps33
    go_wp2_with fail
    obtain ⟨W, hW⟩ : ∃ W, W = ((w.alloc (.cells #[.int .i64 a, .int .i64 b] 45)).alloc (.cells #[.int .i64 c, .int .i64 d] 45)) := ⟨_, rfl⟩
    have c0 : W.cell? ⟨w.heap.size, 0, none⟩ = some (.int .i64 a) := by rw [hW]; simp [go_sem]
    have c1 : W.cell? ⟨w.heap.size, 1, none⟩ = some (.int .i64 b) := by rw [hW]; simp [go_sem]
    have c2 : W.cell? ⟨w.heap.size + 1, 0, none⟩ = some (.int .i64 c) := by rw [hW]; simp [go_sem]
    have c3 : W.cell? ⟨w.heap.size + 1, 1, none⟩ = some (.int .i64 d) := by rw [hW]; simp [go_sem]
    have HB : Hid (Below w.heap.size w W) := Lib.hid (by rw [hW]; exact (by repeat (first | exact Below.refl _ _ | (refine Below.alloc ?_ (by simp <;> omega) _) | (refine Below.setCell ?_ (by simp <;> omega) _) | (refine Below.drew ?_) | (refine bel_drewN ?_ _))))
    have hlt : w.heap.size ≤ W.heap.size := HB.out.size
    rw [← hW]
    clear hW
    refine (irt_is HA.out _).mono ?_
    rintro e w1 ⟨rfl, hb⟩
    replace c0 := kp1 c0 hb
    replace c1 := kp1 c1 hb
    replace c2 := kp1 c2 hb
    replace c3 := kp1 c3 hb
    replace HB := Lib.hid (bel_end HB.out hb)
    clear hb
    go_wp2
    go_ret2
    exact ⟨ret_int2 HV.out.1.symm HV.out.2.symm, HB.out⟩
  · cases hd : ratB c d
    · have HV : Hid (cmpV a b c d = 0 ∧ cmpC a b c d = 1) := Lib.hid ⟨by unfold cmpV; rw [ha, hd]; rfl, by unfold cmpC; rw [ha, hd]; rfl⟩
      have HA := Lib.hid ha
      have HD := Lib.hid hd
      clear ha hd
      go_enter Tryd.func33, Tryd.ntmps33
      go_wp2_with fail
      obtain ⟨W, hW⟩ : ∃ W, W = ((w.alloc (.cells #[.int .i64 a, .int .i64 b] 45)).alloc (.cells #[.int .i64 c, .int .i64 d] 45)) := ⟨_, rfl⟩
      have c0 : W.cell? ⟨w.heap.size, 0, none⟩ = some (.int .i64 a) := by rw [hW]; simp [go_sem]
      have c1 : W.cell? ⟨w.heap.size, 1, none⟩ = some (.int .i64 b) := by rw [hW]; simp [go_sem]
      have c2 : W.cell? ⟨w.heap.size + 1, 0, none⟩ = some (.int .i64 c) := by rw [hW]; simp [go_sem]
      have c3 : W.cell? ⟨w.heap.size + 1, 1, none⟩ = some (.int .i64 d) := by rw [hW]; simp [go_sem]
      have HB : Hid (Below w.heap.size w W) := Lib.hid (by rw [hW]; exact (by repeat (first | exact Below.refl _ _ | (refine Below.alloc ?_ (by simp <;> omega) _) | (refine Below.setCell ?_ (by simp <;> omega) _) | (refine Below.drew ?_) | (refine bel_drewN ?_ _))))
      have hlt : w.heap.size ≤ W.heap.size := HB.out.size
      rw [← hW]
      clear hW
      refine (irt_is HA.out _).mono ?_
      rintro e w1 ⟨rfl, hb⟩
      replace c0 := kp1 c0 hb
      replace c1 := kp1 c1 hb
      replace c2 := kp1 c2 hb
      replace c3 := kp1 c3 hb
      replace HB := Lib.hid (bel_end HB.out hb)
      clear hb
      go_wp2_with fail
      refine (irt_is HD.out _).mono ?_
      rintro e w2 ⟨rfl, hb⟩
      replace c0 := kp1 c0 hb
      replace c1 := kp1 c1 hb
      replace c2 := kp1 c2 hb
      replace c3 := kp1 c3 hb
      replace HB := Lib.hid (bel_end HB.out hb)
      clear hb
      go_wp2
      go_ret2
      exact ⟨ret_int2 HV.out.1.symm HV.out.2.symm, HB.out⟩
    · have HV : Hid (cmpV a b c d = sgn (a * d) (c * b) ∧ cmpC a b c d = 0) := Lib.hid ⟨by unfold cmpV; rw [ha, hd]; rfl, by unfold cmpC; rw [ha, hd]; rfl⟩
      have HA := Lib.hid ha
      have HD := Lib.hid hd
      obtain ⟨a1, a2, b1, b2, -⟩ := ratB_t ha
      obtain ⟨k1, k2, d1, d2, -⟩ := ratB_t hd
      have p0 := mul_abs (a := a) (n := d) (A := 1000000000) (N := 1000000000) (by omega) (by omega)
      have p1 := mul_abs (a := c) (n := b) (A := 1000000000) (N := 1000000000) (by omega) (by omega)
      have l0 : -1000000000000000000 ≤ a * d := by omega
      have u0 : a * d ≤ 1000000000000000000 := by omega
      have l1 : -1000000000000000000 ≤ c * b := by omega
      have u1 : c * b ≤ 1000000000000000000 := by omega
      clear p0 p1 ha hd
      go_enter Tryd.func33, Tryd.ntmps33
      go_wp2_with fail
      obtain ⟨W, hW⟩ : ∃ W, W = ((w.alloc (.cells #[.int .i64 a, .int .i64 b] 45)).alloc (.cells #[.int .i64 c, .int .i64 d] 45)) := ⟨_, rfl⟩
      have c0 : W.cell? ⟨w.heap.size, 0, none⟩ = some (.int .i64 a) := by rw [hW]; simp [go_sem]
      have c1 : W.cell? ⟨w.heap.size, 1, none⟩ = some (.int .i64 b) := by rw [hW]; simp [go_sem]
      have c2 : W.cell? ⟨w.heap.size + 1, 0, none⟩ = some (.int .i64 c) := by rw [hW]; simp [go_sem]
      have c3 : W.cell? ⟨w.heap.size + 1, 1, none⟩ = some (.int .i64 d) := by rw [hW]; simp [go_sem]
      have HB : Hid (Below w.heap.size w W) := Lib.hid (by rw [hW]; exact (by repeat (first | exact Below.refl _ _ | (refine Below.alloc ?_ (by simp <;> omega) _) | (refine Below.setCell ?_ (by simp <;> omega) _) | (refine Below.drew ?_) | (refine bel_drewN ?_ _))))
      have hlt : w.heap.size ≤ W.heap.size := HB.out.size
      rw [← hW]
      clear hW
      refine (irt_is HA.out _).mono ?_
      rintro e w1 ⟨rfl, hb⟩
      replace c0 := kp1 c0 hb
      replace c1 := kp1 c1 hb
      replace c2 := kp1 c2 hb
      replace c3 := kp1 c3 hb
      replace HB := Lib.hid (bel_end HB.out hb)
      clear hb
      go_wp2_with fail
      refine (irt_is HD.out _).mono ?_
      rintro e w2 ⟨rfl, hb⟩
      replace c0 := kp1 c0 hb
      replace c1 := kp1 c1 hb
      replace c2 := kp1 c2 hb
      replace c3 := kp1 c3 hb
      replace HB := Lib.hid (bel_end HB.out hb)
      clear hb
      go_wp2_with (go_at_call 68; refine (cmpc_any _ _ _).mono ?_; rintro e w' ⟨rfl, rfl⟩)
      go_ret2
      exact ⟨ret_int2 HV.out.1.symm HV.out.2.symm, HB.out⟩

set_option maxHeartbeats 1000000 in
theorem scr_any (a b c d : Int) (w : World) :
    Calls Tryd.prog 34 #[.agg #[.int .i64 a, .int .i64 b], .agg #[.int .i64 c, .int .i64 d]] w fun e w' => e = .returned (.tuple #[.int .i64 (cmpV a b c d), .int .i64 (cmpC a b c d)]) ∧ Below w.heap.size w w' := by
  cases ha : ratB a b
  · have HV : Hid (cmpV a b c d = 0 ∧ cmpC a b c d = 1) := Lib.hid ⟨by unfold cmpV; rw [ha]; rfl, by unfold cmpC; rw [ha]; rfl⟩
    have HA := Lib.hid ha
    clear ha
    go_enter Tryd.func34, Tryd.ntmps34
    go_wp2_with fail
    obtain ⟨W, hW⟩ : ∃ W, W = ((w.alloc (.cells #[.int .i64 a, .int .i64 b] 45)).alloc (.cells #[.int .i64 c, .int .i64 d] 45)) := ⟨_, rfl⟩
    have c0 : W.cell? ⟨w.heap.size, 0, none⟩ = some (.int .i64 a) := by rw [hW]; simp [go_sem]
    have c1 : W.cell? ⟨w.heap.size, 1, none⟩ = some (.int .i64 b) := by rw [hW]; simp [go_sem]
    have c2 : W.cell? ⟨w.heap.size + 1, 0, none⟩ = some (.int .i64 c) := by rw [hW]; simp [go_sem]
    have c3 : W.cell? ⟨w.heap.size + 1, 1, none⟩ = some (.int .i64 d) := by rw [hW]; simp [go_sem]
    have HB : Hid (Below w.heap.size w W) := Lib.hid (by rw [hW]; exact (by repeat (first | exact Below.refl _ _ | (refine Below.alloc ?_ (by simp <;> omega) _) | (refine Below.setCell ?_ (by simp <;> omega) _) | (refine Below.drew ?_) | (refine bel_drewN ?_ _))))
    have hlt : w.heap.size ≤ W.heap.size := HB.out.size
    rw [← hW]
    clear hW
    refine (srt_is HA.out _).mono ?_
    rintro e w1 ⟨rfl, hb⟩
    replace c0 := kp1 c0 hb
    replace c1 := kp1 c1 hb
    replace c2 := kp1 c2 hb
    replace c3 := kp1 c3 hb
    replace HB := Lib.hid (bel_end HB.out hb)
    clear hb
    go_wp2
    go_ret2
    exact ⟨ret_int2 HV.out.1.symm HV.out.2.symm, HB.out⟩
  · cases hd : ratB c d
    · have HV : Hid (cmpV a b c d = 0 ∧ cmpC a b c d = 1) := Lib.hid ⟨by unfold cmpV; rw [ha, hd]; rfl, by unfold cmpC; rw [ha, hd]; rfl⟩
      have HA := Lib.hid ha
      have HD := Lib.hid hd
      clear ha hd
      go_enter Tryd.func34, Tryd.ntmps34
      go_wp2_with fail
      obtain ⟨W, hW⟩ : ∃ W, W = ((w.alloc (.cells #[.int .i64 a, .int .i64 b] 45)).alloc (.cells #[.int .i64 c, .int .i64 d] 45)) := ⟨_, rfl⟩
      have c0 : W.cell? ⟨w.heap.size, 0, none⟩ = some (.int .i64 a) := by rw [hW]; simp [go_sem]
      have c1 : W.cell? ⟨w.heap.size, 1, none⟩ = some (.int .i64 b) := by rw [hW]; simp [go_sem]
      have c2 : W.cell? ⟨w.heap.size + 1, 0, none⟩ = some (.int .i64 c) := by rw [hW]; simp [go_sem]
      have c3 : W.cell? ⟨w.heap.size + 1, 1, none⟩ = some (.int .i64 d) := by rw [hW]; simp [go_sem]
      have HB : Hid (Below w.heap.size w W) := Lib.hid (by rw [hW]; exact (by repeat (first | exact Below.refl _ _ | (refine Below.alloc ?_ (by simp <;> omega) _) | (refine Below.setCell ?_ (by simp <;> omega) _) | (refine Below.drew ?_) | (refine bel_drewN ?_ _))))
      have hlt : w.heap.size ≤ W.heap.size := HB.out.size
      rw [← hW]
      clear hW
      refine (srt_is HA.out _).mono ?_
      rintro e w1 ⟨rfl, hb⟩
      replace c0 := kp1 c0 hb
      replace c1 := kp1 c1 hb
      replace c2 := kp1 c2 hb
      replace c3 := kp1 c3 hb
      replace HB := Lib.hid (bel_end HB.out hb)
      clear hb
      go_wp2_with fail
      refine (srt_is HD.out _).mono ?_
      rintro e w2 ⟨rfl, hb⟩
      replace c0 := kp1 c0 hb
      replace c1 := kp1 c1 hb
      replace c2 := kp1 c2 hb
      replace c3 := kp1 c3 hb
      replace HB := Lib.hid (bel_end HB.out hb)
      clear hb
      go_wp2
      go_ret2
      exact ⟨ret_int2 HV.out.1.symm HV.out.2.symm, HB.out⟩
    · have HV : Hid (cmpV a b c d = sgn (a * d) (c * b) ∧ cmpC a b c d = 0) := Lib.hid ⟨by unfold cmpV; rw [ha, hd]; rfl, by unfold cmpC; rw [ha, hd]; rfl⟩
      have HA := Lib.hid ha
      have HD := Lib.hid hd
      obtain ⟨a1, a2, b1, b2, -⟩ := ratB_t ha
      obtain ⟨k1, k2, d1, d2, -⟩ := ratB_t hd
      have p0 := mul_abs (a := a) (n := d) (A := 1000000000) (N := 1000000000) (by omega) (by omega)
      have p1 := mul_abs (a := c) (n := b) (A := 1000000000) (N := 1000000000) (by omega) (by omega)
      have l0 : -1000000000000000000 ≤ a * d := by omega
      have u0 : a * d ≤ 1000000000000000000 := by omega
      have l1 : -1000000000000000000 ≤ c * b := by omega
      have u1 : c * b ≤ 1000000000000000000 := by omega
      clear p0 p1 ha hd
      go_enter Tryd.func34, Tryd.ntmps34
      go_wp2_with fail
      obtain ⟨W, hW⟩ : ∃ W, W = ((w.alloc (.cells #[.int .i64 a, .int .i64 b] 45)).alloc (.cells #[.int .i64 c, .int .i64 d] 45)) := ⟨_, rfl⟩
      have c0 : W.cell? ⟨w.heap.size, 0, none⟩ = some (.int .i64 a) := by rw [hW]; simp [go_sem]
      have c1 : W.cell? ⟨w.heap.size, 1, none⟩ = some (.int .i64 b) := by rw [hW]; simp [go_sem]
      have c2 : W.cell? ⟨w.heap.size + 1, 0, none⟩ = some (.int .i64 c) := by rw [hW]; simp [go_sem]
      have c3 : W.cell? ⟨w.heap.size + 1, 1, none⟩ = some (.int .i64 d) := by rw [hW]; simp [go_sem]
      have HB : Hid (Below w.heap.size w W) := Lib.hid (by rw [hW]; exact (by repeat (first | exact Below.refl _ _ | (refine Below.alloc ?_ (by simp <;> omega) _) | (refine Below.setCell ?_ (by simp <;> omega) _) | (refine Below.drew ?_) | (refine bel_drewN ?_ _))))
      have hlt : w.heap.size ≤ W.heap.size := HB.out.size
      rw [← hW]
      clear hW
      refine (srt_is HA.out _).mono ?_
      rintro e w1 ⟨rfl, hb⟩
      replace c0 := kp1 c0 hb
      replace c1 := kp1 c1 hb
      replace c2 := kp1 c2 hb
      replace c3 := kp1 c3 hb
      replace HB := Lib.hid (bel_end HB.out hb)
      clear hb
      go_wp2_with fail
      refine (srt_is HD.out _).mono ?_
      rintro e w2 ⟨rfl, hb⟩
      replace c0 := kp1 c0 hb
      replace c1 := kp1 c1 hb
      replace c2 := kp1 c2 hb
      replace c3 := kp1 c3 hb
      replace HB := Lib.hid (bel_end HB.out hb)
      clear hb
      go_wp2_with fail
      refine (lcm_any _ _ _ _ HA.out HD.out _).mono ?_
      rintro e w3 ⟨rfl, hb⟩
      replace c0 := kp1 c0 hb
      replace c1 := kp1 c1 hb
      replace c2 := kp1 c2 hb
      replace c3 := kp1 c3 hb
      replace HB := Lib.hid (bel_end HB.out hb)
      clear hb
      go_wp2
      go_ret2
      exact ⟨ret_int2 HV.out.1.symm HV.out.2.symm, HB.out⟩
theorem icr_is {a b c d v x : Int} (h : cmpV a b c d = v) (g : cmpC a b c d = x) (w : World) :
    Calls Tryd.prog 33 #[.agg #[.int .i64 a, .int .i64 b], .agg #[.int .i64 c, .int .i64 d]] w fun e w' => e = .returned (.tuple #[.int .i64 v, .int .i64 x]) ∧ Below w.heap.size w w' := by subst h; subst g; exact icr_any a b c d w
theorem scr_is {a b c d v x : Int} (h : cmpV a b c d = v) (g : cmpC a b c d = x) (w : World) :
    Calls Tryd.prog 34 #[.agg #[.int .i64 a, .int .i64 b], .agg #[.int .i64 c, .int .i64 d]] w fun e w' => e = .returned (.tuple #[.int .i64 v, .int .i64 x]) ∧ Below w.heap.size w w' := by subst h; subst g; exact scr_any a b c d w
end Go.Proofs.YtkiadgmolkpgfabDoor
