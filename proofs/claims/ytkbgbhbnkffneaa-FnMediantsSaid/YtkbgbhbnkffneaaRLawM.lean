/- The walk of the law of mediants and of bounds of multiples over drawn fractions. -/
import Derived.Test.YtkbgbhbnkffneaaRLawS
import Derived.Test.YtkbgbhbnkffneaaCmp
import Derived.Test.YtkbgbhbnkffneaaRbd
namespace Go.Proofs.Ytkbgbhbnkffneaa
open Go.ChangeShapes Go.WideShapes Go.ChangeAt Go.RowKit Num
set_option linter.unusedVariables false
attribute [local go_sem ↓] Go.wp_at_zero Go.wp_at_succ
theorem medT_0 {a b c d p q : Int} (h : medT a b c d = (p, q, 0)) : cmpC a b p q = 0 ∧ cmpC p q c d = 0 ∧ cmpC a b c d = 0 ∧ cmpV a b p q = cmpV a b c d ∧ cmpV p q c d = cmpV a b c d := by
  have := med_mid (a := a) (b := b) (c := c) (d := d) (by rw [h])
  rw [h] at this
  exact this
theorem rbT_0 {a b k l h : Int} (e : rbT a b k = (l, h, 0)) : (-1000000000 ≤ a ∧ a ≤ 1000000000 ∧ 1 ≤ b ∧ b ≤ 1000000000) ∧ (0 ≤ k ∧ k ≤ 1000000) ∧ (-1000000000000 ≤ l ∧ l ≤ 1000000000000) ∧ (-1000000000000 ≤ h ∧ h ≤ 1000000000000) ∧ l * b ≤ k * a ∧ k * a ≤ h * b ∧ h - l ≤ 1 := by
  cases hr : ratB a b
  · unfold rbT at e; rw [hr] at e; cases e
  · cases hk : hasB 0 1000000 k
    · unfold rbT at e; rw [hr, hk] at e; cases e
    · unfold rbT at e
      rw [hr, hk] at e
      replace e : within ((k * a).fdiv b) (cdiv (k * a) b) = (l, h, 0) := e
      obtain ⟨a1, a2, b1, b2, _⟩ := ratB_t hr
      obtain ⟨k1, k2⟩ := hasB_t hk
      unfold within at e
      split at e
      · rename_i hw
        rw [Bool.and_eq_true] at hw
        simp only [Prod.mk.injEq, and_true] at e
        obtain ⟨rfl, rfl⟩ := e
        have vl := valB_t hw.1
        have vh := valB_t hw.2
        have f1 := (fmod_rng (k * a) b).1 (by omega)
        have f2 := (fmod_rng (-(k * a)) b).1 (by omega)
        have hc := cdiv_eq (k * a) b (by omega)
        have e1 : (k * a).fdiv b * b = b * (k * a).fdiv b := Int.mul_comm _ _
        have e2 : cdiv (k * a) b * b = -(b * (-(k * a)).fdiv b) := by unfold cdiv; rw [Int.neg_mul, Int.mul_comm]
        refine ⟨⟨a1, a2, b1, b2⟩, ⟨k1, k2⟩, vl, vh, by omega, by omega, ?_⟩
        unfold cdiv
        rw [hc]
        split <;> omega
      · cases e
theorem icr_is {a b c d v x : Int} (h : cmpV a b c d = v) (g : cmpC a b c d = x) (w : World) :
    Calls Try.prog 52 #[.agg #[.int .i64 a, .int .i64 b], .agg #[.int .i64 c, .int .i64 d]] w fun e w' => e = .returned (.tuple #[.int .i64 v, .int .i64 x]) ∧ Below w.heap.size w w' := by subst h; subst g; exact icr_any a b c d w
set_option maxRecDepth 100000 in
set_option maxHeartbeats 16000000 in
theorem lmedi (a0 : Option Addr) (len0 cap0 : Nat) (z0 : List Int) (w : World) (w0 : IsRow .u8 w a0 len0 cap0 z0) :
    Calls Try.prog 8 #[.slice a0 len0 cap0] w fun e w' => e = .returned (.bool true) ∧ Below w.heap.size w w' := by
  obtain ⟨hlen, hcode⟩ := Code8.of_row w0
  obtain ⟨zs, hzs⟩ : ∃ zs, z0.take len0 = zs := ⟨_, rfl⟩
  rw [hzs] at hlen hcode
  subst hlen
  clear hzs w0
  have HC := Lib.hid hcode
  clear hcode
  by_cases hbig : 4096 < zs.length
  · have hd : decide ((4096 : Int) < (zs.length : Int)) = true := by simp; omega
    go_enter Try.func8, Try.ntmps8
    go_wp2_with (go_at_call 17; refine (big_any _ _ _ _).mono ?_; rw [hd]; rintro e w' ⟨rfl, rfl⟩)
    go_ret
    exact ⟨rfl, Below.refl _ _⟩
  · have hd : decide ((4096 : Int) < (zs.length : Int)) = false := by simp; omega
    go_enter Try.func8, Try.ntmps8
    go_wp2_with (go_at_call 17; refine (big_any _ _ _ _).mono ?_; rw [hd]; rintro e w' ⟨rfl, rfl⟩)
    clear hd
    refine (der_any _ _ _ zs HC.out).mono ?_
    rintro e w1 ⟨x, y, u, v, rfl, hb⟩
    have B1 := Lib.hid hb
    clear hb
    obtain ⟨T, hT⟩ : ∃ T, medT x y u v = T := ⟨_, rfl⟩
    have HT := Lib.hid hT
    clear hT
    obtain ⟨p, q, c⟩ := T
    go_wp2_with fail
    refine (ime_any _ _ _ _ _).mono ?_
    rw [HT.out]
    rintro e w2 ⟨rfl, hb⟩
    have PA_2 := Lib.hid (((Pair.new w1 x y 42).alloc _).keep hb)
    have PB_2 := Lib.hid ((Pair.new2 w1 _ u v 42).keep hb)
    have B2 := Lib.hid (bel_end (bel_end B1.out (below_refl2 _ _ _)) hb)
    clear hb
    obtain ⟨uA0, uA1⟩ := PA_2.out
    have gA := PA_2.out.lt
    obtain ⟨uB0, uB1⟩ := PB_2.out
    have gB := PB_2.out.lt
    go_wp2_with fail
    refine (sme_any _ _ _ _ _).mono ?_
    rw [HT.out]
    rintro e w3 ⟨rfl, hb⟩
    have PA_3 := Lib.hid ((PA_2.out.alloc _).keep hb)
    have PB_3 := Lib.hid ((PB_2.out.alloc _).keep hb)
    have PX_3 := Lib.hid ((Pair.new w2 p q 42).keep hb)
    have B3 := Lib.hid (bel_end (B2.out.alloc B2.out.size (.cells #[.int .i64 p, .int .i64 q] 42)) hb)
    clear hb
    clear uA0 uA1 gA uB0 uB1 gB
    clear PA_2 PB_2
    have BA := Lib.hid (B3.out.alloc B3.out.size (.cells #[.int .i64 p, .int .i64 q] 42))
    go_wp2_with fail
    refine (drb_any _ _ _ zs (Code8.more (HC.out.below BA.out (Nat.le_refl _)) BA.out.size)).mono ?_
    rintro e w4 ⟨x', y', k, rfl, hb⟩
    have PA_4 := Lib.hid ((PA_3.out.alloc _).keep hb)
    have PB_4 := Lib.hid ((PB_3.out.alloc _).keep hb)
    have PX_4 := Lib.hid ((PX_3.out.alloc _).keep hb)
    have PM_4 := Lib.hid ((Pair.new w3 p q 42).keep hb)
    have B4 := Lib.hid (bel_end (B3.out.alloc B3.out.size (.cells #[.int .i64 p, .int .i64 q] 42)) hb)
    clear hb
    clear PA_3 PB_3 PX_3
    clear BA
    obtain ⟨T2, hT⟩ : ∃ T, rbT x' y' k = T := ⟨_, rfl⟩
    have HQ := Lib.hid hT
    clear hT
    obtain ⟨l, h, c'⟩ := T2
    go_wp2_with fail
    refine (irb_any _ _ _ _).mono ?_
    rw [HQ.out]
    rintro e w5 ⟨rfl, hb⟩
    have PA_5 := Lib.hid ((PA_4.out.alloc _).keep hb)
    have PB_5 := Lib.hid ((PB_4.out.alloc _).keep hb)
    have PX_5 := Lib.hid ((PX_4.out.alloc _).keep hb)
    have PM_5 := Lib.hid ((PM_4.out.alloc _).keep hb)
    have PC_5 := Lib.hid ((Pair.new w4 x' y' 42).keep hb)
    have B5 := Lib.hid (bel_end (B4.out.alloc B4.out.size (.cells #[.int .i64 x', .int .i64 y'] 42)) hb)
    clear hb
    clear PA_4 PB_4 PX_4 PM_4
    obtain ⟨uC0, uC1⟩ := PC_5.out
    have gC := PC_5.out.lt
    go_wp2_with fail
    refine (srb_any _ _ _ _).mono ?_
    rw [HQ.out]
    rintro e w6 ⟨rfl, hb⟩
    have PA_6 := Lib.hid ((PA_5.out.alloc _).keep hb)
    have PB_6 := Lib.hid ((PB_5.out.alloc _).keep hb)
    have PX_6 := Lib.hid ((PX_5.out.alloc _).keep hb)
    have PM_6 := Lib.hid ((PM_5.out.alloc _).keep hb)
    have PC_6 := Lib.hid ((PC_5.out.alloc _).keep hb)
    have PY_6 := Lib.hid ((Pair.new w5 l h 29).keep hb)
    have B6 := Lib.hid (bel_end (B5.out.alloc B5.out.size (.cells #[.int .i64 l, .int .i64 h] 29)) hb)
    clear hb
    clear uC0 uC1 gC
    clear PA_5 PB_5 PX_5 PM_5 PC_5
    obtain ⟨uX0, uX1⟩ := PX_6.out
    have gX := PX_6.out.lt
    obtain ⟨uM0, uM1⟩ := PM_6.out
    have gM := PM_6.out.lt
    obtain ⟨uY0, uY1⟩ := PY_6.out
    have gY := PY_6.out.lt
    obtain ⟨uC0, uC1⟩ := PC_6.out
    have gC := PC_6.out.lt
    by_cases hc' : c' = 0
    · subst hc'
      obtain ⟨⟨a1, a2, b1, b2⟩, ⟨k1, k2⟩, ⟨vl1, vl2⟩, ⟨vh1, vh2⟩, q1, q2, q3⟩ := rbT_0 HQ.out
      have m0 := mul_abs (a := k) (n := x') (A := 1000000) (N := 1000000000) (by omega) (by omega)
      have l0 : -1000000000000000000 ≤ k * x' := by omega
      have l1 : k * x' ≤ 1000000000000000000 := by omega
      have m1 : l * y' ≤ 1000000000000000000 := by omega
      have m2 : -1000000000000000000 ≤ h * y' := by omega
      have t1 := Int.mul_le_mul_of_nonneg_right (show h ≤ l + 1 by omega) (show 0 ≤ y' by omega)
      rw [Int.add_mul] at t1
      have m3 : -2000000000000000000 ≤ l * y' := by omega
      have m4 : h * y' ≤ 2000000000000000000 := by omega
      clear m0 t1
      by_cases hc : c = 0
      · subst hc
        obtain ⟨e1, e2, e3, e4, e5⟩ := medT_0 HT.out
        obtain ⟨s, hs⟩ : ∃ s, cmpV x y u v = s := ⟨_, rfl⟩
        rw [hs] at e4 e5
        have H1 := Lib.hid (And.intro e1 e4)
        have H2 := Lib.hid (And.intro e2 e5)
        have H3 := Lib.hid (And.intro e3 hs)
        clear e1 e2 e3 e4 e5 hs
        obtain ⟨uA0, uA1⟩ := PA_6.out
        have gA := PA_6.out.lt
        go_wp2_with fail
        refine (icr_is H1.out.2 H1.out.1 _).mono ?_
        rintro e w7 ⟨rfl, hb⟩
        have PA_7 := Lib.hid ((PA_6.out.alloc _).keep hb)
        have PB_7 := Lib.hid ((PB_6.out.alloc _).keep hb)
        have PX_7 := Lib.hid ((PX_6.out.alloc _).keep hb)
        have PM_7 := Lib.hid ((PM_6.out.alloc _).keep hb)
        have PC_7 := Lib.hid ((PC_6.out.alloc _).keep hb)
        have PY_7 := Lib.hid ((PY_6.out.alloc _).keep hb)
        have PZ_7 := Lib.hid ((Pair.new w6 l h 29).keep hb)
        have B7 := Lib.hid (bel_end (B6.out.alloc B6.out.size (.cells #[.int .i64 l, .int .i64 h] 29)) hb)
        clear hb
        clear uA0 uA1 gA
        clear PA_6 PB_6 PX_6 PM_6 PC_6 PY_6
        clear uX0 uX1 gX uM0 uM1 gM uY0 uY1 gY uC0 uC1 gC
        obtain ⟨uX0, uX1⟩ := PX_7.out
        have gX := PX_7.out.lt
        obtain ⟨uB0, uB1⟩ := PB_7.out
        have gB := PB_7.out.lt
        go_wp2_with fail
        refine (icr_is H2.out.2 H2.out.1 _).mono ?_
        rintro e w8 ⟨rfl, hb⟩
        have PA_8 := Lib.hid (PA_7.out.keep hb)
        have PB_8 := Lib.hid (PB_7.out.keep hb)
        have PX_8 := Lib.hid (PX_7.out.keep hb)
        have PM_8 := Lib.hid (PM_7.out.keep hb)
        have PC_8 := Lib.hid (PC_7.out.keep hb)
        have PY_8 := Lib.hid (PY_7.out.keep hb)
        have PZ_8 := Lib.hid (PZ_7.out.keep hb)
        have B8 := Lib.hid (bel_end B7.out hb)
        clear hb
        clear uX0 uX1 gX uB0 uB1 gB
        clear PA_7 PB_7 PX_7 PM_7 PC_7 PY_7 PZ_7
        obtain ⟨uA0, uA1⟩ := PA_8.out
        have gA := PA_8.out.lt
        obtain ⟨uB0, uB1⟩ := PB_8.out
        have gB := PB_8.out.lt
        go_wp2_with fail
        refine (icr_is H3.out.2 H3.out.1 _).mono ?_
        rintro e w9 ⟨rfl, hb⟩
        have PA_9 := Lib.hid (PA_8.out.keep hb)
        have PB_9 := Lib.hid (PB_8.out.keep hb)
        have PX_9 := Lib.hid (PX_8.out.keep hb)
        have PM_9 := Lib.hid (PM_8.out.keep hb)
        have PC_9 := Lib.hid (PC_8.out.keep hb)
        have PY_9 := Lib.hid (PY_8.out.keep hb)
        have PZ_9 := Lib.hid (PZ_8.out.keep hb)
        have B9 := Lib.hid (bel_end B8.out hb)
        clear hb
        clear uA0 uA1 gA uB0 uB1 gB
        clear PA_8 PB_8 PX_8 PM_8 PC_8 PY_8 PZ_8
        go_wp2
        go_ret
        exact ⟨rfl, B9.out⟩
      · have hcn : (c != 0) = true := by simpa using hc
        go_wp2
        go_ret
        exact ⟨rfl, B6.out.alloc B6.out.size _⟩
    · have hcn' : (c' == 0) = false := by simpa using hc'
      by_cases hc : c = 0
      · subst hc
        obtain ⟨e1, e2, e3, e4, e5⟩ := medT_0 HT.out
        obtain ⟨s, hs⟩ : ∃ s, cmpV x y u v = s := ⟨_, rfl⟩
        rw [hs] at e4 e5
        have H1 := Lib.hid (And.intro e1 e4)
        have H2 := Lib.hid (And.intro e2 e5)
        have H3 := Lib.hid (And.intro e3 hs)
        clear e1 e2 e3 e4 e5 hs
        obtain ⟨uA0, uA1⟩ := PA_6.out
        have gA := PA_6.out.lt
        go_wp2_with fail
        refine (icr_is H1.out.2 H1.out.1 _).mono ?_
        rintro e w7 ⟨rfl, hb⟩
        have PA_7 := Lib.hid ((PA_6.out.alloc _).keep hb)
        have PB_7 := Lib.hid ((PB_6.out.alloc _).keep hb)
        have PX_7 := Lib.hid ((PX_6.out.alloc _).keep hb)
        have PM_7 := Lib.hid ((PM_6.out.alloc _).keep hb)
        have PC_7 := Lib.hid ((PC_6.out.alloc _).keep hb)
        have PY_7 := Lib.hid ((PY_6.out.alloc _).keep hb)
        have PZ_7 := Lib.hid ((Pair.new w6 l h 29).keep hb)
        have B7 := Lib.hid (bel_end (B6.out.alloc B6.out.size (.cells #[.int .i64 l, .int .i64 h] 29)) hb)
        clear hb
        clear uA0 uA1 gA
        clear PA_6 PB_6 PX_6 PM_6 PC_6 PY_6
        clear uX0 uX1 gX uM0 uM1 gM uY0 uY1 gY uC0 uC1 gC
        obtain ⟨uX0, uX1⟩ := PX_7.out
        have gX := PX_7.out.lt
        obtain ⟨uB0, uB1⟩ := PB_7.out
        have gB := PB_7.out.lt
        go_wp2_with fail
        refine (icr_is H2.out.2 H2.out.1 _).mono ?_
        rintro e w8 ⟨rfl, hb⟩
        have PA_8 := Lib.hid (PA_7.out.keep hb)
        have PB_8 := Lib.hid (PB_7.out.keep hb)
        have PX_8 := Lib.hid (PX_7.out.keep hb)
        have PM_8 := Lib.hid (PM_7.out.keep hb)
        have PC_8 := Lib.hid (PC_7.out.keep hb)
        have PY_8 := Lib.hid (PY_7.out.keep hb)
        have PZ_8 := Lib.hid (PZ_7.out.keep hb)
        have B8 := Lib.hid (bel_end B7.out hb)
        clear hb
        clear uX0 uX1 gX uB0 uB1 gB
        clear PA_7 PB_7 PX_7 PM_7 PC_7 PY_7 PZ_7
        obtain ⟨uA0, uA1⟩ := PA_8.out
        have gA := PA_8.out.lt
        obtain ⟨uB0, uB1⟩ := PB_8.out
        have gB := PB_8.out.lt
        go_wp2_with fail
        refine (icr_is H3.out.2 H3.out.1 _).mono ?_
        rintro e w9 ⟨rfl, hb⟩
        have PA_9 := Lib.hid (PA_8.out.keep hb)
        have PB_9 := Lib.hid (PB_8.out.keep hb)
        have PX_9 := Lib.hid (PX_8.out.keep hb)
        have PM_9 := Lib.hid (PM_8.out.keep hb)
        have PC_9 := Lib.hid (PC_8.out.keep hb)
        have PY_9 := Lib.hid (PY_8.out.keep hb)
        have PZ_9 := Lib.hid (PZ_8.out.keep hb)
        have B9 := Lib.hid (bel_end B8.out hb)
        clear hb
        clear uA0 uA1 gA uB0 uB1 gB
        clear PA_8 PB_8 PX_8 PM_8 PC_8 PY_8 PZ_8
        go_wp2
        go_ret
        exact ⟨rfl, B9.out⟩
      · have hcn : (c != 0) = true := by simpa using hc
        go_wp2
        go_ret
        exact ⟨rfl, B6.out.alloc B6.out.size _⟩
end Go.Proofs.Ytkbgbhbnkffneaa
