/- The walk of the law of sums and products over drawn fractions. -/
import Derived.Test.YtkbgbhbnkffneaaRDraw2
import Derived.Test.YtkbgbhbnkffneaaPair
import Derived.Test.YtkbgbhbnkffneaaTwo
namespace Go.Proofs.Ytkbgbhbnkffneaa
open Go.ChangeShapes Go.WideShapes Go.ChangeAt Go.RowKit Num
set_option linter.unusedVariables false
attribute [local go_sem ↓] Go.wp_at_zero Go.wp_at_succ
/-- the same value -/
theorem lik_any (a b n d : Int) (e : a * d = n * b) (w : World) :
    Calls Try.prog 40 #[.agg #[.int .i64 a, .int .i64 b], .int .i64 n, .int .i64 d] w fun e w' => e = .returned (.bool true) ∧ Below w.heap.size w w' := by
  go_enter Try.func40, Try.ntmps40
  go_wp2
  go_ret
  exact ⟨rfl, (by repeat (first | exact Below.refl _ _ | (refine Below.alloc ?_ (by simp <;> omega) _) | (refine Below.setCell ?_ (by simp <;> omega) _) | (refine Below.drew ?_) | (refine bel_drewN ?_ _)))⟩
theorem mulT_0 {a b c d p q : Int} (h : mulT a b c d = (p, q, 0)) : (-1000000000 ≤ a ∧ a ≤ 1000000000 ∧ 1 ≤ b ∧ b ≤ 1000000000) ∧ (-1000000000 ≤ c ∧ c ≤ 1000000000 ∧ 1 ≤ d ∧ d ≤ 1000000000) ∧ p * (b * d) = a * c * q := by
  cases hr : (ratB a b && ratB c d)
  · unfold mulT at h; rw [hr] at h; cases h
  · have e : mulT a b c d = mkT (a * c) (b * d) := by unfold mulT; rw [hr]; rfl
    rw [e] at h
    have hv := mkT_val (show (mkT (a * c) (b * d)).2.2 = 0 by rw [h])
    rw [h] at hv
    rw [Bool.and_eq_true] at hr
    obtain ⟨a1, a2, b1, b2, _⟩ := ratB_t hr.1
    obtain ⟨c1, c2, d1, d2, _⟩ := ratB_t hr.2
    exact ⟨⟨a1, a2, b1, b2⟩, ⟨c1, c2, d1, d2⟩, hv⟩
theorem addT_0 {a b c d p q : Int} (h : addT a b c d = (p, q, 0)) : (-1000000000 ≤ c ∧ c ≤ 1000000000) ∧ addT p q (-c) d = (a, b, 0) := by
  have hb := add_back (a := a) (b := b) (c := c) (d := d) (by rw [h])
  rw [h] at hb
  cases hr : (ratB a b && ratB c d)
  · unfold addT at h; rw [hr] at h; cases h
  · rw [Bool.and_eq_true] at hr
    obtain ⟨c1, c2, _⟩ := ratB_t hr.2
    exact ⟨⟨c1, c2⟩, hb⟩
theorem iad_is {a b c d : Int} {T : Int × Int × Int} (h : addT a b c d = T) (w : World) :
    Calls Try.prog 42 #[.agg #[.int .i64 a, .int .i64 b], .agg #[.int .i64 c, .int .i64 d]] w fun e w' => e = .returned (.tuple #[.agg #[.int .i64 T.1, .int .i64 T.2.1], .int .i64 T.2.2]) ∧ Below w.heap.size w w' := by subst h; exact iad_any a b c d w
set_option maxRecDepth 100000 in
set_option maxHeartbeats 8000000 in
theorem lrsum (a0 : Option Addr) (len0 cap0 : Nat) (z0 : List Int) (w : World) (w0 : IsRow .u8 w a0 len0 cap0 z0) :
    Calls Try.prog 7 #[.slice a0 len0 cap0] w fun e w' => e = .returned (.bool true) ∧ Below w.heap.size w w' := by
  obtain ⟨hlen, hcode⟩ := Code8.of_row w0
  obtain ⟨zs, hzs⟩ : ∃ zs, z0.take len0 = zs := ⟨_, rfl⟩
  rw [hzs] at hlen hcode
  subst hlen
  clear hzs w0
  have HC := Lib.hid hcode
  clear hcode
  by_cases hbig : 4096 < zs.length
  · have hd : decide ((4096 : Int) < (zs.length : Int)) = true := by simp; omega
    go_enter Try.func7, Try.ntmps7
    go_wp2_with (go_at_call 17; refine (big_any _ _ _ _).mono ?_; rw [hd]; rintro e w' ⟨rfl, rfl⟩)
    go_ret
    exact ⟨rfl, Below.refl _ _⟩
  · have hd : decide ((4096 : Int) < (zs.length : Int)) = false := by simp; omega
    go_enter Try.func7, Try.ntmps7
    go_wp2_with (go_at_call 17; refine (big_any _ _ _ _).mono ?_; rw [hd]; rintro e w' ⟨rfl, rfl⟩)
    clear hd
    refine (dar_any _ _ _ zs HC.out).mono ?_
    rintro e w1 ⟨x, y, u, v, rfl, hb⟩
    have B1 := Lib.hid hb
    clear hb
    obtain ⟨T, hT⟩ : ∃ T, addT x y u v = T := ⟨_, rfl⟩
    have HT := Lib.hid hT
    clear hT
    obtain ⟨p, q, c⟩ := T
    go_wp2_with fail
    refine (iad_any _ _ _ _ _).mono ?_
    rw [HT.out]
    rintro e w2 ⟨rfl, hb⟩
    have PA_2 := Lib.hid (((Pair.new w1 x y 42).alloc _).keep hb)
    have PB_2 := Lib.hid ((Pair.new2 w1 _ u v 42).keep hb)
    have B2 := Lib.hid (bel_end (bel_end B1.out (below_refl2 _ _ _)) hb)
    clear hb
    obtain ⟨uA0, uA1⟩ := PA_2.out
    have gA := PA_2.out.lt
    obtain ⟨uB0, uB1⟩ := PB_2.out
    have gB := PB_2.out.lt
    go_wp2_with fail
    refine (sad_any _ _ _ _ _).mono ?_
    rw [HT.out]
    rintro e w3 ⟨rfl, hb⟩
    have PA_3 := Lib.hid ((PA_2.out.alloc _).keep hb)
    have PB_3 := Lib.hid ((PB_2.out.alloc _).keep hb)
    have PX_3 := Lib.hid ((Pair.new w2 p q 42).keep hb)
    have B3 := Lib.hid (bel_end (B2.out.alloc B2.out.size (.cells #[.int .i64 p, .int .i64 q] 42)) hb)
    clear hb
    clear uA0 uA1 gA uB0 uB1 gB
    clear PA_2 PB_2
    have BA := Lib.hid (B3.out.alloc B3.out.size (.cells #[.int .i64 p, .int .i64 q] 42))
    go_wp2_with fail
    refine (dmr_any _ _ _ zs (Code8.more (HC.out.below BA.out (Nat.le_refl _)) BA.out.size)).mono ?_
    rintro e w4 ⟨x', y', u', v', rfl, hb⟩
    have PA_4 := Lib.hid ((PA_3.out.alloc _).keep hb)
    have PB_4 := Lib.hid ((PB_3.out.alloc _).keep hb)
    have PX_4 := Lib.hid ((PX_3.out.alloc _).keep hb)
    have PM_4 := Lib.hid ((Pair.new w3 p q 42).keep hb)
    have B4 := Lib.hid (bel_end (B3.out.alloc B3.out.size (.cells #[.int .i64 p, .int .i64 q] 42)) hb)
    clear hb
    clear PA_3 PB_3 PX_3
    clear BA
    obtain ⟨T2, hT⟩ : ∃ T, mulT x' y' u' v' = T := ⟨_, rfl⟩
    have HQ := Lib.hid hT
    clear hT
    obtain ⟨p', q', c'⟩ := T2
    go_wp2_with fail
    refine (imu_any _ _ _ _ _).mono ?_
    rw [HQ.out]
    rintro e w5 ⟨rfl, hb⟩
    have PA_5 := Lib.hid (((PA_4.out.alloc _).alloc _).keep hb)
    have PB_5 := Lib.hid (((PB_4.out.alloc _).alloc _).keep hb)
    have PX_5 := Lib.hid (((PX_4.out.alloc _).alloc _).keep hb)
    have PM_5 := Lib.hid (((PM_4.out.alloc _).alloc _).keep hb)
    have PC_5 := Lib.hid (((Pair.new w4 x' y' 42).alloc _).keep hb)
    have PE_5 := Lib.hid ((Pair.new2 w4 _ u' v' 42).keep hb)
    have B5 := Lib.hid (bel_end (bel_end B4.out (below_refl2 _ _ _)) hb)
    clear hb
    clear PA_4 PB_4 PX_4 PM_4
    obtain ⟨uC0, uC1⟩ := PC_5.out
    have gC := PC_5.out.lt
    obtain ⟨uE0, uE1⟩ := PE_5.out
    have gE := PE_5.out.lt
    go_wp2_with fail
    refine (smu_any _ _ _ _ _).mono ?_
    rw [HQ.out]
    rintro e w6 ⟨rfl, hb⟩
    have PA_6 := Lib.hid ((PA_5.out.alloc _).keep hb)
    have PB_6 := Lib.hid ((PB_5.out.alloc _).keep hb)
    have PX_6 := Lib.hid ((PX_5.out.alloc _).keep hb)
    have PM_6 := Lib.hid ((PM_5.out.alloc _).keep hb)
    have PC_6 := Lib.hid ((PC_5.out.alloc _).keep hb)
    have PE_6 := Lib.hid ((PE_5.out.alloc _).keep hb)
    have PY_6 := Lib.hid ((Pair.new w5 p' q' 42).keep hb)
    have B6 := Lib.hid (bel_end (B5.out.alloc B5.out.size (.cells #[.int .i64 p', .int .i64 q'] 42)) hb)
    clear hb
    clear uC0 uC1 gC uE0 uE1 gE
    clear PA_5 PB_5 PX_5 PM_5 PC_5 PE_5
    obtain ⟨uX0, uX1⟩ := PX_6.out
    have gX := PX_6.out.lt
    obtain ⟨uM0, uM1⟩ := PM_6.out
    have gM := PM_6.out.lt
    obtain ⟨uY0, uY1⟩ := PY_6.out
    have gY := PY_6.out.lt
    by_cases hc' : c' = 0
    · subst hc'
      obtain ⟨⟨a1, a2, b1, b2⟩, ⟨k1, k2, d1, d2⟩, hval⟩ := mulT_0 HQ.out
      have m0 := mul_abs (a := x') (n := u') (A := 1000000000) (N := 1000000000) (by omega) (by omega)
      have m1 := mul_abs (a := y') (n := v') (A := 1000000000) (N := 1000000000) (by omega) (by omega)
      have l0 : -1000000000000000000 ≤ x' * u' := by omega
      have l1 : x' * u' ≤ 1000000000000000000 := by omega
      have l2 : -1000000000000000000 ≤ y' * v' := by omega
      have l3 : y' * v' ≤ 1000000000000000000 := by omega
      have HV := Lib.hid hval
      clear hval m0 m1
      obtain ⟨uC0, uC1⟩ := PC_6.out
      have gC := PC_6.out.lt
      obtain ⟨uE0, uE1⟩ := PE_6.out
      have gE := PE_6.out.lt
      go_wp2_with fail
      refine (lik_any _ _ _ _ HV.out _).mono ?_
      rintro e w7 ⟨rfl, hb⟩
      have PA_7 := Lib.hid ((PA_6.out.alloc _).keep hb)
      have PB_7 := Lib.hid ((PB_6.out.alloc _).keep hb)
      have PX_7 := Lib.hid ((PX_6.out.alloc _).keep hb)
      have PM_7 := Lib.hid ((PM_6.out.alloc _).keep hb)
      have PC_7 := Lib.hid ((PC_6.out.alloc _).keep hb)
      have PE_7 := Lib.hid ((PE_6.out.alloc _).keep hb)
      have PY_7 := Lib.hid ((PY_6.out.alloc _).keep hb)
      have PZ_7 := Lib.hid ((Pair.new w6 p' q' 42).keep hb)
      have B7 := Lib.hid (bel_end (B6.out.alloc B6.out.size (.cells #[.int .i64 p', .int .i64 q'] 42)) hb)
      clear hb
      clear uC0 uC1 gC uE0 uE1 gE
      clear PA_6 PB_6 PX_6 PM_6 PC_6 PE_6 PY_6
      clear uX0 uX1 gX uM0 uM1 gM uY0 uY1 gY l0 l1 l2 l3
      by_cases hc : c = 0
      · subst hc
        obtain ⟨⟨c1, c2⟩, hadd⟩ := addT_0 HT.out
        have HA := Lib.hid hadd
        clear hadd
        obtain ⟨uX0, uX1⟩ := PX_7.out
        have gX := PX_7.out.lt
        obtain ⟨uB0, uB1⟩ := PB_7.out
        have gB := PB_7.out.lt
        go_wp2_with fail
        refine (iad_is HA.out _).mono ?_
        rintro e w8 ⟨rfl, hb⟩
        have PA_8 := Lib.hid (PA_7.out.keep hb)
        have PB_8 := Lib.hid (PB_7.out.keep hb)
        have PX_8 := Lib.hid (PX_7.out.keep hb)
        have PM_8 := Lib.hid (PM_7.out.keep hb)
        have PC_8 := Lib.hid (PC_7.out.keep hb)
        have PE_8 := Lib.hid (PE_7.out.keep hb)
        have PY_8 := Lib.hid (PY_7.out.keep hb)
        have PZ_8 := Lib.hid (PZ_7.out.keep hb)
        have B8 := Lib.hid (bel_end B7.out hb)
        clear hb
        clear uX0 uX1 gX uB0 uB1 gB
        clear PA_7 PB_7 PX_7 PM_7 PC_7 PE_7 PY_7 PZ_7
        obtain ⟨uA0, uA1⟩ := PA_8.out
        have gA := PA_8.out.lt
        go_wp2
        go_ret
        exact ⟨rfl, B8.out.alloc B8.out.size _⟩
      · have hcn : (c != 0) = true := by simpa using hc
        go_wp2
        go_ret
        exact ⟨rfl, B7.out⟩
    · have hcn' : (c' == 0) = false := by simpa using hc'
      by_cases hc : c = 0
      · subst hc
        obtain ⟨⟨c1, c2⟩, hadd⟩ := addT_0 HT.out
        have HA := Lib.hid hadd
        clear hadd
        obtain ⟨uB0, uB1⟩ := PB_6.out
        have gB := PB_6.out.lt
        go_wp2_with fail
        refine (iad_is HA.out _).mono ?_
        rintro e w7 ⟨rfl, hb⟩
        have PA_7 := Lib.hid ((PA_6.out.alloc _).keep hb)
        have PB_7 := Lib.hid ((PB_6.out.alloc _).keep hb)
        have PX_7 := Lib.hid ((PX_6.out.alloc _).keep hb)
        have PM_7 := Lib.hid ((PM_6.out.alloc _).keep hb)
        have PC_7 := Lib.hid ((PC_6.out.alloc _).keep hb)
        have PE_7 := Lib.hid ((PE_6.out.alloc _).keep hb)
        have PY_7 := Lib.hid ((PY_6.out.alloc _).keep hb)
        have PZ_7 := Lib.hid ((Pair.new w6 p' q' 42).keep hb)
        have B7 := Lib.hid (bel_end (B6.out.alloc B6.out.size (.cells #[.int .i64 p', .int .i64 q'] 42)) hb)
        clear hb
        clear uB0 uB1 gB
        clear PA_6 PB_6 PX_6 PM_6 PC_6 PE_6 PY_6
        clear uX0 uX1 gX uM0 uM1 gM uY0 uY1 gY
        obtain ⟨uA0, uA1⟩ := PA_7.out
        have gA := PA_7.out.lt
        go_wp2
        go_ret
        exact ⟨rfl, B7.out.alloc B7.out.size _⟩
      · have hcn : (c != 0) = true := by simpa using hc
        go_wp2
        go_ret
        exact ⟨rfl, B6.out.alloc B6.out.size _⟩
end Go.Proofs.Ytkbgbhbnkffneaa
