/- The walk of the law of sines. -/
import Derived.Test.YtcaekheghjnipaaDRy
import Derived.Test.YtcaekheghjnipaaCanS
import Derived.Test.YtcaekheghjnipaaDirCd
import Derived.Deep.RegionHeld3
import Derived.Deep.DeepCutAuto
namespace Go.Proofs.Ytcaekheghjnipaa
open Go.ChangeShapes Go.WideShapes Go.ChangeAt Go.RowKit Go.Shelf Num
set_option linter.unusedVariables false
attribute [local go_sem ↓] Go.wp_at_zero Go.wp_at_succ

theorem rt_up {N : Int} (h0 : 0 ≤ N) (h : N ≤ 4000000000000000000) : rt N * rt N ≤ N ∧ N ≤ rtup N * rtup N ∧ 0 ≤ rt N ∧ rt N ≤ 2000000000 ∧ rt N ≤ rtup N ∧ rtup N - rt N ≤ 1 := by
  obtain ⟨h1, h2⟩ := rt_sq N h0
  have h3 := rt_nonneg N
  have h4 := rt_le h0 h
  unfold rtup
  split
  · rename_i e
    exact ⟨h1, by omega, h3, h4, by omega, by omega⟩
  · exact ⟨h1, by omega, h3, h4, by omega, by omega⟩
theorem rc_steep {zs ys : List Int} {sr c s h k : Int} (e : rcod zs ys sr c s h k = 0) (c' s' h' : Int) (hd : dirB c' s' h' = true) : rcod zs ys sr c' s' h' k = 0 := by
  obtain ⟨h1, h2, h3, h4⟩ := rcT_0 e
  unfold rcod rcT
  rw [h1, h3, h4, hd]; rfl
theorem steep_ok : dirB 9 40 41 = true := by decide +kernel
structure SnF (ys : List Int) (c h X Y : Int) (i j : Nat) (B3 : Bool) (f4 : Int) : Prop where
  li : i < ys.length
  lj : j < ys.length
  c1 : 1 ≤ c
  c2 : c ≤ 1000
  h1 : 1 ≤ h
  h2 : h ≤ 1000
  u1 : 0 ≤ ys.getD i 0
  u2 : ys.getD i 0 ≤ 1700000
  v1 : 0 ≤ ys.getD j 0
  v2 : ys.getD j 0 ≤ 1700000
  lo : X * X ≤ (h * ys.getD i 0 - c * ys.getD j 0) * (h * ys.getD i 0 + c * ys.getD j 0)
  up : (h * ys.getD i 0 - c * ys.getD j 0) * (h * ys.getD i 0 + c * ys.getD j 0) ≤ Y * Y
  x0 : 0 ≤ X
  x1 : X ≤ 2000000000
  xy : X ≤ Y
  d : Y - X ≤ 1
  st : B3 = true ∨ f4 < 0
theorem sn_fact {zs ys : List Int} {sr c s h k X Y : Int} (hU : snT zs ys sr c s h k = (X, Y, 0)) : ∃ i j : Nat, sr = (i : Int) ∧ k = (j : Int) ∧ ccT zs ys sr c s h k = (true, 0) ∧ (ccT zs ys sr 9 40 41 k).2 = 0 ∧ cdC c s h 9 40 41 = 0 ∧
    SnF ys c h X Y i j (ccT zs ys sr 9 40 41 k).1 (cdV c s h 9 40 41) := by
  by_cases hq : rcod zs ys sr c s h k = 0
  · obtain ⟨hv, od, ⟨i, rfl, hi⟩, ⟨j, rfl, hj⟩⟩ := rcod_0 hq
    have ho := Okp.of hv
    unfold snT at hU
    rw [if_pos hq] at hU
    cases hx : crB ys (i : Int) c h (j : Int)
    · rw [hx] at hU; simp at hU
    · rw [hx] at hU
      simp only [if_true, Prod.mk.injEq, and_true] at hU
      have q1 := mul_in (a := h) (b := ys.getD i 0) (A := 1000) (B := 1700000) (by have := od.h1; omega) (by have := od.h2; omega) (ho.sge i) (ho.shi i)
      have q2 := mul_in (a := c) (b := ys.getD j 0) (A := 1000) (B := 1700000) (by have := od.c1; omega) (by have := od.c2; have := od.h2; omega) (ho.sge j) (ho.shi j)
      have hlt : c * ys.getD j 0 < h * ys.getD i 0 := by
        unfold crB at hx
        rw [rA_nat, rB_nat] at hx
        exact of_decide_eq_true hx
      have hN : sqN ys (i : Int) c h (j : Int) = (h * ys.getD i 0 - c * ys.getD j 0) * (h * ys.getD i 0 + c * ys.getD j 0) := by
        unfold sqN; rw [rA_nat, rB_nat, sq_eq]
      have m1 := mul_in (a := h * ys.getD i 0) (b := h * ys.getD i 0) (A := 1700000000) (B := 1700000000) (by omega) (by omega) (by omega) (by omega)
      have m3 : (c * ys.getD j 0) * (c * ys.getD j 0) ≤ (h * ys.getD i 0) * (h * ys.getD i 0) := Int.mul_le_mul (by omega) (by omega) (by omega) (by omega)
      have m4 : 0 ≤ (c * ys.getD j 0) * (c * ys.getD j 0) := Int.mul_nonneg (by omega) (by omega)
      have g := rt_up (N := sqN ys (i : Int) c h (j : Int)) (by unfold sqN; rw [rA_nat, rB_nat]; omega) (by unfold sqN; rw [rA_nat, rB_nat]; omega)
      rw [hU.1, hU.2, hN] at g
      have hs := rc_steep hq 9 40 41 steep_ok
      have hcc : ccT zs ys (i : Int) 9 40 41 (j : Int) = (crB ys (i : Int) 9 41 (j : Int), 0) := by unfold ccT; rw [if_pos hs]
      refine ⟨i, j, rfl, rfl, by unfold ccT; rw [if_pos hq, hx], by rw [hcc], ?_, ?_⟩
      · unfold cdC; rw [od.b, steep_ok]; rfl
      · refine ⟨by rw [ho.len]; exact hi, by rw [ho.len]; exact hj, od.c1, by have := od.c2; have := od.h2; omega, od.h1, od.h2, ho.sge i, ho.shi i, ho.sge j, ho.shi j, g.1, g.2.1, g.2.2.1, g.2.2.2.1, g.2.2.2.2.1, g.2.2.2.2.2, ?_⟩
        rw [hcc]
        show crB ys (i : Int) 9 41 (j : Int) = true ∨ _
        have hcd : cdV c s h 9 40 41 = sgn (c * 41) (9 * h) := by unfold cdV; rw [od.b, steep_ok]; rfl
        rw [hcd]
        by_cases hf : c * 41 < 9 * h
        · exact Or.inr (by unfold sgn; rw [if_pos hf]; omega)
        · refine Or.inl (decide_eq_true ?_)
          rw [rA_nat, rB_nat]
          -- 9 h v ≤ 41 c v < 41 h u
          have h1 := od.h1
          have k1 : (9 * h) * ys.getD j 0 ≤ (c * 41) * ys.getD j 0 := Int.mul_le_mul_of_nonneg_right (by omega) (ho.sge j)
          have k2 : (c * 41) * ys.getD j 0 = 41 * (c * ys.getD j 0) := by rw [Int.mul_comm c 41, Int.mul_assoc]
          have k3 : (9 * h) * ys.getD j 0 = h * (9 * ys.getD j 0) := by rw [Int.mul_comm 9 h, Int.mul_assoc]
          have k4 : h * (41 * ys.getD i 0) = 41 * (h * ys.getD i 0) := by rw [← Int.mul_assoc, Int.mul_comm h 41, Int.mul_assoc]
          exact Int.lt_of_mul_lt_mul_left (a := h) (by omega) (by omega)
  · unfold snT at hU
    rw [if_neg hq] at hU
    simp only [Prod.mk.injEq] at hU
    exact absurd hU.2.2 hq
theorem cc_sn {zs ys : List Int} {sr c s h k X Y e1 e2 : Int} {B : Bool} (hU : snT zs ys sr c s h k = (X, Y, e1)) (hV : ccT zs ys sr c s h k = (B, e2)) (h2 : e2 = 0) (h1 : ¬ e1 = 0) : B = false := by
  subst h2
  by_cases hq : rcod zs ys sr c s h k = 0
  · unfold snT at hU
    unfold ccT at hV
    rw [if_pos hq] at hU hV
    cases hx : crB ys sr c h k
    · rw [hx] at hV; simpa using hV.symm
    · rw [hx] at hU
      simp only [if_true, Prod.mk.injEq] at hU
      exact absurd hU.2.2.symm h1
  · unfold ccT at hV
    rw [if_neg hq] at hV
    simp only [Prod.mk.injEq] at hV
    exact absurd hV.2 hq

set_option maxRecDepth 100000 in
set_option maxHeartbeats 4000000 in
theorem lsns (a0 : Option Addr) (len0 cap0 : Nat) (z0 : List Int) (w : World) (w0 : IsRow .u8 w a0 len0 cap0 z0) :
    Calls Try.prog 12 #[.slice a0 len0 cap0] w fun e w' => e = .returned (.bool true) ∧ Below w.heap.size w w' := by
  obtain ⟨hln, hc⟩ := Code8.of_row w0
  clear w0
  obtain ⟨cs, hcs⟩ : ∃ cs, z0.take len0 = cs := ⟨_, rfl⟩
  rw [hcs] at hln hc
  subst hln
  clear hcs
  have HC := Lib.hid hc
  clear hc
  by_cases hbig : 4096 < (cs.length : Int)
  · have HB0 : Hid (decide (4096 < (cs.length : Int)) = true) := Lib.hid (decide_eq_true hbig)
    clear hbig
    go_enter Try.func12, Try.ntmps12
    go_wp2_with fail
    refine (big_any _ _ _ _).mono ?_
    rw [HB0.out]
    rintro e w1 ⟨rfl, rfl⟩
    go_wp2
    go_ret
    exact ⟨rfl, Below.refl _ _⟩
  have HB0 : Hid (decide (4096 < (cs.length : Int)) = false) := Lib.hid (decide_eq_false hbig)
  clear hbig
  go_enter Try.func12, Try.ntmps12
  go_wp2_with fail
  refine (big_any _ _ _ _).mono ?_
  rw [HB0.out]
  rintro e w1 ⟨rfl, hw1⟩
  subst hw1
  go_wp2_with fail
  refine (dsa_any _ _ _ cs HC.out).mono ?_
  rintro e w1 ⟨a1, b1, c1, d1, zs, ys, sr, c, s, h, k, rfl, hp, hb⟩
  have HB := Lib.hid hb
  have HP := Lib.hid hp.n
  clear hp
  obtain ⟨⟨X, Y, e1⟩, hU⟩ : ∃ U, snT zs ys sr c s h k = U := ⟨_, rfl⟩
  obtain ⟨⟨B, e2⟩, hV⟩ : ∃ U, ccT zs ys sr c s h k = U := ⟨_, rfl⟩
  have KA : Hid (∀ (w : World) (a b : Option Addr) (c_ d_ : Nat), Prof w w.heap.size a b zs ys → Calls Try.prog 31 #[.agg #[.slice a zs.length c_, .slice b ys.length d_], .int .i64 sr, .agg #[.int .i64 c, .int .i64 s, .int .i64 h], .int .i64 k] w fun e w' => e = .returned (.tuple #[.agg #[.int .i64 X, .int .i64 Y], .int .i64 e1]) ∧ Below w.heap.size w w') := Lib.hid (fun w a b c_ d_ hp => by have := isn_any w a b c_ d_ zs ys sr k c s h hp; rwa [hU] at this)
  have KB : Hid (∀ (w : World) (a b : Option Addr) (c_ d_ : Nat), Prof w w.heap.size a b zs ys → Calls Try.prog 30 #[.agg #[.slice a zs.length c_, .slice b ys.length d_], .int .i64 sr, .agg #[.int .i64 c, .int .i64 s, .int .i64 h], .int .i64 k] w fun e w' => e = .returned (.tuple #[.agg #[.int .i64 X, .int .i64 Y], .int .i64 e1]) ∧ Below w.heap.size w w') := Lib.hid (fun w a b c_ d_ hp => by have := ssn_any w a b c_ d_ zs ys sr k c s h hp; rwa [hU] at this)
  have KC : Hid (∀ (w : World) (a b : Option Addr) (c_ d_ : Nat), Prof w w.heap.size a b zs ys → Calls Try.prog 28 #[.agg #[.slice a zs.length c_, .slice b ys.length d_], .int .i64 sr, .agg #[.int .i64 c, .int .i64 s, .int .i64 h], .int .i64 k] w fun e w' => e = .returned (.tuple #[.bool B, .int .i64 e2]) ∧ Below w.heap.size w w') := Lib.hid (fun w a b c_ d_ hp => by have := icc_any w a b c_ d_ zs ys sr k c s h hp; rwa [hV] at this)
  have KD : Hid (∀ (w : World) (a b : Option Addr) (c_ d_ : Nat), Prof w w.heap.size a b zs ys → Calls Try.prog 26 #[.agg #[.slice a zs.length c_, .slice b ys.length d_], .int .i64 sr, .agg #[.int .i64 c, .int .i64 s, .int .i64 h], .int .i64 k] w fun e w' => e = .returned (.tuple #[.bool B, .int .i64 e2]) ∧ Below w.heap.size w w') := Lib.hid (fun w a b c_ d_ hp => by have := scc_any w a b c_ d_ zs ys sr k c s h hp; rwa [hV] at this)
  obtain ⟨⟨B3, e3⟩, hW⟩ : ∃ U, ccT zs ys sr 9 40 41 k = U := ⟨_, rfl⟩
  obtain ⟨f4, hf4⟩ : ∃ U, cdV c s h 9 40 41 = U := ⟨_, rfl⟩
  obtain ⟨e4, he4⟩ : ∃ U, cdC c s h 9 40 41 = U := ⟨_, rfl⟩
  have KE : Hid (∀ (w : World) (a b : Option Addr) (c_ d_ : Nat), Prof w w.heap.size a b zs ys → Calls Try.prog 28 #[.agg #[.slice a zs.length c_, .slice b ys.length d_], .int .i64 sr, .agg #[.int .i64 9, .int .i64 40, .int .i64 41], .int .i64 k] w fun e w' => e = .returned (.tuple #[.bool B3, .int .i64 e3]) ∧ Below w.heap.size w w') := Lib.hid (fun w a b c_ d_ hp => by have := icc_any w a b c_ d_ zs ys sr k 9 40 41 hp; rwa [hW] at this)
  have KF : Hid (∀ (w : World), Calls Try.prog 24 #[.agg #[.int .i64 c, .int .i64 s, .int .i64 h], .agg #[.int .i64 9, .int .i64 40, .int .i64 41]] w fun e w' => e = .returned (.tuple #[.int .i64 f4, .int .i64 e4]) ∧ Below w.heap.size w w') := Lib.hid (fun w => by have := icm_any c s h 9 40 41 w; rwa [hf4, he4] at this)
  have F0 : Hid (e2 = 0 → ¬ e1 = 0 → B = false) := Lib.hid (fun h2 h1 => cc_sn hU hV h2 h1)
  have F1 : Hid (e1 = 0 → ∃ i j : Nat, sr = (i : Int) ∧ k = (j : Int) ∧ (B = true ∧ e2 = 0) ∧ e3 = 0 ∧ e4 = 0 ∧ SnF ys c h X Y i j B3 f4) := Lib.hid (fun h1 => by subst h1; obtain ⟨i, j, g1, g2, g3, g4, g5, g6⟩ := sn_fact hU; rw [hV] at g3; rw [hW] at g4 g6; rw [he4] at g5; rw [hf4] at g6; simp only [Prod.mk.injEq] at g3; exact ⟨i, j, g1, g2, g3, g4, g5, g6⟩)
  clear hU hV hW hf4 he4
  clear hb
  go_wp2_with fail
  obtain ⟨W2, hW⟩ : ∃ W, W = ((w1.alloc (.cells #[.slice a1 zs.length c1, .slice b1 ys.length d1] 42)).alloc (.cells #[.int .i64 c, .int .i64 s, .int .i64 h] 25)) := ⟨_, rfl⟩
  have hb : Below w1.heap.size w1 W2 := by rw [hW]; exact (by repeat (first | exact Below.refl _ _ | (refine Below.alloc ?_ (by simp <;> omega) _) | (refine Below.setCell ?_ (by simp <;> omega) _) | (refine Below.drew ?_) | (refine bel_drewN ?_ _)))
  have bA : Bk W2 (w1.heap.size) #[.slice a1 zs.length c1, .slice b1 ys.length d1] 42 := by rw [hW]; exact ((Bk.new' (by simp)).alloc _)
  have bD : Bk W2 (w1.heap.size + 1) #[.int .i64 c, .int .i64 s, .int .i64 h] 25 := by rw [hW]; exact (Bk.new' (by simp))
  replace HP := Lib.hid (HP.out.on hb)
  replace HB := Lib.hid (bel_end HB.out hb)
  rw [← hW]
  clear hW hb
  have bA_0 := bA.cell 0 rfl
  have bA_1 := bA.cell 1 rfl
  have bA_l := bA.lt
  have bD_0 := bD.cell 0 rfl
  have bD_1 := bD.cell 1 rfl
  have bD_2 := bD.cell 2 rfl
  have bD_l := bD.lt
  refine (KA.out _ _ _ _ _ HP.out.at_).mono ?_
  rintro e w3 ⟨rfl, hb⟩
  replace bA := bA.on hb
  replace bD := bD.on hb
  replace HP := Lib.hid (HP.out.on hb)
  replace HB := Lib.hid (bel_end HB.out hb)
  clear hb
  clear bA_0 bA_1 bA_l bD_0 bD_1 bD_2 bD_l
  have bA_0 := bA.cell 0 rfl
  have bA_1 := bA.cell 1 rfl
  have bA_l := bA.lt
  have bD_0 := bD.cell 0 rfl
  have bD_1 := bD.cell 1 rfl
  have bD_2 := bD.cell 2 rfl
  have bD_l := bD.lt
  go_wp2_with fail
  obtain ⟨W4, hW⟩ : ∃ W, W = (w3.alloc (.cells #[.int .i64 X, .int .i64 Y] 47)) := ⟨_, rfl⟩
  have hb : Below w3.heap.size w3 W4 := by rw [hW]; exact (by repeat (first | exact Below.refl _ _ | (refine Below.alloc ?_ (by simp <;> omega) _) | (refine Below.setCell ?_ (by simp <;> omega) _) | (refine Below.drew ?_) | (refine bel_drewN ?_ _)))
  have bX : Bk W4 (w3.heap.size) #[.int .i64 X, .int .i64 Y] 47 := by rw [hW]; exact (Bk.new' (by simp))
  replace bA := bA.on hb
  replace bD := bD.on hb
  replace HP := Lib.hid (HP.out.on hb)
  replace HB := Lib.hid (bel_end HB.out hb)
  rw [← hW]
  clear bA_0 bA_1 bA_l bD_0 bD_1 bD_2 bD_l
  clear hW hb
  have bA_0 := bA.cell 0 rfl
  have bA_1 := bA.cell 1 rfl
  have bA_l := bA.lt
  have bD_0 := bD.cell 0 rfl
  have bD_1 := bD.cell 1 rfl
  have bD_2 := bD.cell 2 rfl
  have bD_l := bD.lt
  have bX_0 := bX.cell 0 rfl
  have bX_1 := bX.cell 1 rfl
  have bX_l := bX.lt
  refine (KB.out _ _ _ _ _ HP.out.at_).mono ?_
  rintro e w5 ⟨rfl, hb⟩
  replace bA := bA.on hb
  replace bD := bD.on hb
  replace bX := bX.on hb
  replace HP := Lib.hid (HP.out.on hb)
  replace HB := Lib.hid (bel_end HB.out hb)
  clear hb
  clear bA_0 bA_1 bA_l bD_0 bD_1 bD_2 bD_l bX_0 bX_1 bX_l
  have bA_0 := bA.cell 0 rfl
  have bA_1 := bA.cell 1 rfl
  have bA_l := bA.lt
  have bD_0 := bD.cell 0 rfl
  have bD_1 := bD.cell 1 rfl
  have bD_2 := bD.cell 2 rfl
  have bD_l := bD.lt
  have bX_0 := bX.cell 0 rfl
  have bX_1 := bX.cell 1 rfl
  have bX_l := bX.lt
  go_wp2_with fail
  obtain ⟨W6, hW⟩ : ∃ W, W = (w5.alloc (.cells #[.int .i64 X, .int .i64 Y] 47)) := ⟨_, rfl⟩
  have hb : Below w5.heap.size w5 W6 := by rw [hW]; exact (by repeat (first | exact Below.refl _ _ | (refine Below.alloc ?_ (by simp <;> omega) _) | (refine Below.setCell ?_ (by simp <;> omega) _) | (refine Below.drew ?_) | (refine bel_drewN ?_ _)))
  have bY : Bk W6 (w5.heap.size) #[.int .i64 X, .int .i64 Y] 47 := by rw [hW]; exact (Bk.new' (by simp))
  replace bA := bA.on hb
  replace bD := bD.on hb
  replace bX := bX.on hb
  replace HP := Lib.hid (HP.out.on hb)
  replace HB := Lib.hid (bel_end HB.out hb)
  rw [← hW]
  clear bA_0 bA_1 bA_l bD_0 bD_1 bD_2 bD_l bX_0 bX_1 bX_l
  clear hW hb
  have bA_0 := bA.cell 0 rfl
  have bA_1 := bA.cell 1 rfl
  have bA_l := bA.lt
  have bD_0 := bD.cell 0 rfl
  have bD_1 := bD.cell 1 rfl
  have bD_2 := bD.cell 2 rfl
  have bD_l := bD.lt
  have bX_0 := bX.cell 0 rfl
  have bX_1 := bX.cell 1 rfl
  have bX_l := bX.lt
  have bY_0 := bY.cell 0 rfl
  have bY_1 := bY.cell 1 rfl
  have bY_l := bY.lt
  refine (KC.out _ _ _ _ _ HP.out.at_).mono ?_
  rintro e w7 ⟨rfl, hb⟩
  replace bA := bA.on hb
  replace bD := bD.on hb
  replace bX := bX.on hb
  replace bY := bY.on hb
  replace HP := Lib.hid (HP.out.on hb)
  replace HB := Lib.hid (bel_end HB.out hb)
  clear hb
  clear bA_0 bA_1 bA_l bD_0 bD_1 bD_2 bD_l bX_0 bX_1 bX_l bY_0 bY_1 bY_l
  have bA_0 := bA.cell 0 rfl
  have bA_1 := bA.cell 1 rfl
  have bA_l := bA.lt
  have bD_0 := bD.cell 0 rfl
  have bD_1 := bD.cell 1 rfl
  have bD_2 := bD.cell 2 rfl
  have bD_l := bD.lt
  have bX_0 := bX.cell 0 rfl
  have bX_1 := bX.cell 1 rfl
  have bX_l := bX.lt
  have bY_0 := bY.cell 0 rfl
  have bY_1 := bY.cell 1 rfl
  have bY_l := bY.lt
  go_wp2_with fail
  refine (KD.out _ _ _ _ _ HP.out.at_).mono ?_
  rintro e w8 ⟨rfl, hb⟩
  replace bA := bA.on hb
  replace bD := bD.on hb
  replace bX := bX.on hb
  replace bY := bY.on hb
  replace HP := Lib.hid (HP.out.on hb)
  replace HB := Lib.hid (bel_end HB.out hb)
  clear KA KB KC KD
  clear hb
  clear bA_0 bA_1 bA_l bD_0 bD_1 bD_2 bD_l bX_0 bX_1 bX_l bY_0 bY_1 bY_l
  by_cases h1 : e1 = 0
  case neg =>
    have h1b : (e1 != 0) = true := by simpa using h1
    have h1c : (e1 == 0) = false := by simpa using h1
    by_cases h2 : e2 = 0
    · obtain rfl := F0.out h2 h1
      subst h2
      clear F0 F1 KE KF
      have bA_0 := bA.cell 0 rfl
      have bA_1 := bA.cell 1 rfl
      have bA_l := bA.lt
      have bD_0 := bD.cell 0 rfl
      have bD_1 := bD.cell 1 rfl
      have bD_2 := bD.cell 2 rfl
      have bD_l := bD.lt
      have bX_0 := bX.cell 0 rfl
      have bX_1 := bX.cell 1 rfl
      have bX_l := bX.lt
      have bY_0 := bY.cell 0 rfl
      have bY_1 := bY.cell 1 rfl
      have bY_l := bY.lt
      go_wp2
      go_ret
      exact ⟨rfl, HB.out⟩
    · have h2b : (e2 == 0) = false := by simpa using h2
      clear F0 F1 KE KF
      have bA_0 := bA.cell 0 rfl
      have bA_1 := bA.cell 1 rfl
      have bA_l := bA.lt
      have bD_0 := bD.cell 0 rfl
      have bD_1 := bD.cell 1 rfl
      have bD_2 := bD.cell 2 rfl
      have bD_l := bD.lt
      have bX_0 := bX.cell 0 rfl
      have bX_1 := bX.cell 1 rfl
      have bX_l := bX.lt
      have bY_0 := bY.cell 0 rfl
      have bY_1 := bY.cell 1 rfl
      have bY_l := bY.lt
      go_wp2
      go_ret
      exact ⟨rfl, HB.out⟩
  case pos =>
    obtain ⟨i, j, rfl, rfl, ⟨rfl, rfl⟩, rfl, rfl, FF⟩ := F1.out h1
    subst h1
    clear F0 F1
    have F := Lib.hid FF
    clear FF
    obtain ⟨by_, oy, rfl, hBy, hcy⟩ := HP.out.at_.sy (show 0 < ys.length by have := F.out.li; omega)
    have z1 := hcy i F.out.li
    have z2 := hcy j F.out.lj
    clear hcy hBy
    have li := F.out.li
    have lj := F.out.lj
    have q0 : (i : Int) < (ys.length : Int) := by omega
    have q1 : (j : Int) < (ys.length : Int) := by omega
    have hn2 := HP.out.n2
    obtain ⟨fli, flj, c1_, c2_, h1_, h2_, u1_, u2_, v1_, v2_, flo, fup, fx0, fx1, fxy, fd, fst⟩ := F.out
    clear F
    obtain ⟨u, hu⟩ : ∃ u, ys.getD i 0 = u := ⟨_, rfl⟩
    obtain ⟨v, hv⟩ : ∃ u, ys.getD j 0 = u := ⟨_, rfl⟩
    rw [hu] at z1 u1_ u2_ flo fup
    rw [hv] at z2 v1_ v2_ flo fup
    clear hu hv fli flj
    have m1 := mul_in (a := h) (b := u) (A := 1000) (B := 1700000) (by omega) (by omega) (by omega) (by omega)
    have m2 := mul_in (a := c) (b := v) (A := 1000) (B := 1700000) (by omega) (by omega) (by omega) (by omega)
    have t1 : IntKind.wrap .i64 (h * u) = h * u := IntWalk.i64_in _ (by omega)
    have t2 : IntKind.wrap .i64 (c * v) = c * v := IntWalk.i64_in _ (by omega)
    obtain ⟨P, hP⟩ : ∃ P, h * u = P := ⟨_, rfl⟩
    obtain ⟨Q, hQ⟩ : ∃ P, c * v = P := ⟨_, rfl⟩
    replace t1 : IntKind.wrap .i64 (h * u) = P := by rw [t1, hP]
    replace t2 : IntKind.wrap .i64 (c * v) = Q := by rw [t2, hQ]
    rw [hP] at flo fup m1
    rw [hQ] at flo fup m2
    clear hP hQ
    have t3 : IntKind.wrap .i64 (P - Q) = P - Q := IntWalk.i64_in _ (by omega)
    have t4 : IntKind.wrap .i64 (P + Q) = P + Q := IntWalk.i64_in _ (by omega)
    have m3 := mul_abs (a := P - Q) (n := P + Q) (A := 1700000000) (N := 3400000000) (by omega) (by omega)
    have t5 : IntKind.wrap .i64 ((P - Q) * (P + Q)) = (P - Q) * (P + Q) := IntWalk.i64_in _ (by omega)
    obtain ⟨N, hN⟩ : ∃ N, (P - Q) * (P + Q) = N := ⟨_, rfl⟩
    replace t5 : IntKind.wrap .i64 ((P - Q) * (P + Q)) = N := by rw [t5, hN]
    rw [hN] at flo fup
    clear hN m3
    have m4 := mul_in (a := X) (b := X) (A := 2000000000) (B := 2000000000) (by omega) (by omega) (by omega) (by omega)
    have m5 := mul_in (a := Y) (b := Y) (A := 2000000001) (B := 2000000001) (by omega) (by omega) (by omega) (by omega)
    have t6 : IntKind.wrap .i64 (X * X) = X * X := IntWalk.i64_in _ (by omega)
    have t7 : IntKind.wrap .i64 (Y * Y) = Y * Y := IntWalk.i64_in _ (by omega)
    obtain ⟨XX, hXX⟩ : ∃ N, X * X = N := ⟨_, rfl⟩
    obtain ⟨YY, hYY⟩ : ∃ N, Y * Y = N := ⟨_, rfl⟩
    replace t6 : IntKind.wrap .i64 (X * X) = XX := by rw [t6, hXX]
    replace t7 : IntKind.wrap .i64 (Y * Y) = YY := by rw [t7, hYY]
    rw [hXX] at flo m4
    rw [hYY] at fup m5
    clear hXX hYY m1 m2 m4 m5
    have t8 : IntKind.wrap .i64 (Y - X) = Y - X := IntWalk.i64_in _ (by omega)
    have bA_0 := bA.cell 0 rfl
    have bA_1 := bA.cell 1 rfl
    have bA_l := bA.lt
    have bD_0 := bD.cell 0 rfl
    have bD_1 := bD.cell 1 rfl
    have bD_2 := bD.cell 2 rfl
    have bD_l := bD.lt
    have bX_0 := bX.cell 0 rfl
    have bX_1 := bX.cell 1 rfl
    have bX_l := bX.lt
    have bY_0 := bY.cell 0 rfl
    have bY_1 := bY.cell 1 rfl
    have bY_l := bY.lt
    go_upto_region 12 with fail
    go_quiet (fail)
    go_wp2_with fail
    clear bA_0 bA_1 bA_l bD_0 bD_1 bD_2 bD_l bX_0 bX_1 bX_l bY_0 bY_1 bY_l
    generalize hW : World.drewN _ _ = WQ
    have hb : Below w8.heap.size w8 WQ := by rw [← hW]; exact bel_drewN (Below.refl _ _) _
    clear hW z1 z2
    replace bA := bA.on hb
    replace bD := bD.on hb
    replace bX := bX.on hb
    replace bY := bY.on hb
    replace HP := Lib.hid (HP.out.on hb)
    replace HB := Lib.hid (bel_end HB.out hb)
    clear hb
    have bA_0 := bA.cell 0 rfl
    have bA_1 := bA.cell 1 rfl
    have bA_l := bA.lt
    have bD_0 := bD.cell 0 rfl
    have bD_1 := bD.cell 1 rfl
    have bD_2 := bD.cell 2 rfl
    have bD_l := bD.lt
    have bX_0 := bX.cell 0 rfl
    have bX_1 := bX.cell 1 rfl
    have bX_l := bX.lt
    have bY_0 := bY.cell 0 rfl
    have bY_1 := bY.cell 1 rfl
    have bY_l := bY.lt
    refine (KE.out _ _ _ _ _ HP.out.at_).mono ?_
    rintro e w9 ⟨rfl, hb⟩
    replace bA := bA.on hb
    replace bD := bD.on hb
    replace bX := bX.on hb
    replace bY := bY.on hb
    replace HP := Lib.hid (HP.out.on hb)
    replace HB := Lib.hid (bel_end HB.out hb)
    clear hb
    clear bA_0 bA_1 bA_l bD_0 bD_1 bD_2 bD_l bX_0 bX_1 bX_l bY_0 bY_1 bY_l
    have bA_0 := bA.cell 0 rfl
    have bA_1 := bA.cell 1 rfl
    have bA_l := bA.lt
    have bD_0 := bD.cell 0 rfl
    have bD_1 := bD.cell 1 rfl
    have bD_2 := bD.cell 2 rfl
    have bD_l := bD.lt
    have bX_0 := bX.cell 0 rfl
    have bX_1 := bX.cell 1 rfl
    have bX_l := bX.lt
    have bY_0 := bY.cell 0 rfl
    have bY_1 := bY.cell 1 rfl
    have bY_l := bY.lt
    go_wp2_with fail
    refine (KF.out _).mono ?_
    rintro e w10 ⟨rfl, hb⟩
    replace bA := bA.on hb
    replace bD := bD.on hb
    replace bX := bX.on hb
    replace bY := bY.on hb
    replace HP := Lib.hid (HP.out.on hb)
    replace HB := Lib.hid (bel_end HB.out hb)
    clear KE KF
    clear hb
    clear bA_0 bA_1 bA_l bD_0 bD_1 bD_2 bD_l bX_0 bX_1 bX_l bY_0 bY_1 bY_l
    have bA_0 := bA.cell 0 rfl
    have bA_1 := bA.cell 1 rfl
    have bA_l := bA.lt
    have bD_0 := bD.cell 0 rfl
    have bD_1 := bD.cell 1 rfl
    have bD_2 := bD.cell 2 rfl
    have bD_l := bD.lt
    have bX_0 := bX.cell 0 rfl
    have bX_1 := bX.cell 1 rfl
    have bX_l := bX.lt
    have bY_0 := bY.cell 0 rfl
    have bY_1 := bY.cell 1 rfl
    have bY_l := bY.lt
    cases B3
    · have hf : f4 < 0 := by simpa using fst
      clear fst
      go_wp2
      go_ret
      exact ⟨rfl, HB.out⟩
    · clear fst
      go_wp2
      go_ret
      exact ⟨rfl, HB.out⟩
end Go.Proofs.Ytcaekheghjnipaa
