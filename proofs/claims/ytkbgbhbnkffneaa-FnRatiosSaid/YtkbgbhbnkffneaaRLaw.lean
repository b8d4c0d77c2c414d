/- The walk of the law of made and inverted fractions over drawn numbers and fractions. -/
import Derived.Test.YtkbgbhbnkffneaaRLawS
import Derived.Deep.RegionHeld3
import Derived.Deep.DeepCutAuto
import Derived.Deep.DrawnRows
namespace Go.Proofs.Ytkbgbhbnkffneaa
open Go.ChangeShapes Go.WideShapes Go.ChangeAt Go.RowKit Num
set_option linter.unusedVariables false
attribute [local go_sem ↓] Go.wp_at_zero Go.wp_at_succ
theorem madT_0 {a b p q : Int} (h : madT a b = (p, q, 0)) : ratB p q = true ∧ p * b = a * q := by
  by_cases hd : dcode a b = 0
  · rw [madT_ok hd] at h
    have h0 : (mkT a b).2.2 = 0 := by rw [h]
    have hr := (mkT_0 h0).1
    have hv := mkT_val h0
    rw [h] at hr hv
    exact ⟨hr, hv⟩
  · rw [madT_no rfl hd] at h
    simp only [Prod.mk.injEq] at h
    exact absurd h.2.2 hd
theorem invT_0 {x y p q : Int} (h : invT x y = (p, q, 0)) : invT p q = (x, y, 0) ∧ mulT x y p q = (1, 1, 0) := by
  have := inv_back (a := x) (b := y) (by rw [h])
  rw [h] at this
  exact this
theorem iiv_is {a b : Int} {T : Int × Int × Int} (h : invT a b = T) (w : World) :
    Calls Try.prog 35 #[.agg #[.int .i64 a, .int .i64 b]] w fun e w' => e = .returned (.tuple #[.agg #[.int .i64 T.1, .int .i64 T.2.1], .int .i64 T.2.2]) ∧ Below w.heap.size w w' := by subst h; exact iiv_any a b w
theorem imu_is {a b c d : Int} {T : Int × Int × Int} (h : mulT a b c d = T) (w : World) :
    Calls Try.prog 39 #[.agg #[.int .i64 a, .int .i64 b], .agg #[.int .i64 c, .int .i64 d]] w fun e w' => e = .returned (.tuple #[.agg #[.int .i64 T.1, .int .i64 T.2.1], .int .i64 T.2.2]) ∧ Below w.heap.size w w' := by subst h; exact imu_any a b c d w
set_option maxRecDepth 100000 in
set_option maxHeartbeats 16000000 in
theorem lrats (a0 : Option Addr) (len0 cap0 : Nat) (z0 : List Int) (w : World) (w0 : IsRow .u8 w a0 len0 cap0 z0) :
    Calls Try.prog 6 #[.slice a0 len0 cap0] w fun e w' => e = .returned (.bool true) ∧ Below w.heap.size w w' := by
  obtain ⟨hlen, hcode⟩ := Code8.of_row w0
  obtain ⟨zs, hzs⟩ : ∃ zs, z0.take len0 = zs := ⟨_, rfl⟩
  rw [hzs] at hlen hcode
  subst hlen
  clear hzs w0
  have HC := Lib.hid hcode
  clear hcode
  by_cases hbig : 4096 < zs.length
  · have hd : decide ((4096 : Int) < (zs.length : Int)) = true := by simp; omega
    go_enter Try.func6, Try.ntmps6
    go_wp2_with (go_at_call 17; refine (big_any _ _ _ _).mono ?_; rw [hd]; rintro e w' ⟨rfl, rfl⟩)
    go_ret
    exact ⟨rfl, Below.refl _ _⟩
  · have hd : decide ((4096 : Int) < (zs.length : Int)) = false := by simp; omega
    go_enter Try.func6, Try.ntmps6
    go_wp2_with (go_at_call 17; refine (big_any _ _ _ _).mono ?_; rw [hd]; rintro e w' ⟨rfl, rfl⟩)
    clear hd
    refine (dmk_any _ _ _ zs HC.out).mono ?_
    rintro e w1 ⟨a, b, rfl, -, -, hb⟩
    have B1 := Lib.hid hb
    clear hb
    obtain ⟨T, hT⟩ : ∃ T, madT a b = T := ⟨_, rfl⟩
    have HT := Lib.hid hT
    clear hT
    obtain ⟨p, q, c⟩ := T
    go_wp2_with fail
    refine (imk_any _ _ _).mono ?_
    rw [HT.out]
    rintro e w2 ⟨rfl, hb⟩
    have B2 := Lib.hid (bel_end B1.out hb)
    clear hb
    go_wp2_with fail
    refine (smk_any _ _ _).mono ?_
    rw [HT.out]
    rintro e w3 ⟨rfl, hb⟩
    have PD_3 := Lib.hid ((Pair.new w2 p q 42).keep hb)
    have B3 := Lib.hid (bel_end (B2.out.alloc B2.out.size (.cells #[.int .i64 p, .int .i64 q] 42)) hb)
    clear hb
    have BA := Lib.hid (B3.out.alloc B3.out.size (.cells #[.int .i64 p, .int .i64 q] 42))
    go_wp2_with fail
    refine (div1_any _ _ _ zs (Code8.more (HC.out.below BA.out (Nat.le_refl _)) BA.out.size)).mono ?_
    rintro e w4 ⟨x, y, rfl, hb⟩
    have PD_4 := Lib.hid ((PD_3.out.alloc _).keep hb)
    have PM_4 := Lib.hid ((Pair.new w3 p q 42).keep hb)
    have B4 := Lib.hid (bel_end (B3.out.alloc B3.out.size (.cells #[.int .i64 p, .int .i64 q] 42)) hb)
    clear hb
    clear PD_3
    clear BA
    obtain ⟨T2, hT⟩ : ∃ T, invT x y = T := ⟨_, rfl⟩
    have HQ := Lib.hid hT
    clear hT
    obtain ⟨p', q', c'⟩ := T2
    go_wp2_with fail
    refine (iiv_any _ _ _).mono ?_
    rw [HQ.out]
    rintro e w5 ⟨rfl, hb⟩
    have PD_5 := Lib.hid ((PD_4.out.alloc _).keep hb)
    have PM_5 := Lib.hid ((PM_4.out.alloc _).keep hb)
    have PX_5 := Lib.hid ((Pair.new w4 x y 42).keep hb)
    have B5 := Lib.hid (bel_end (B4.out.alloc B4.out.size (.cells #[.int .i64 x, .int .i64 y] 42)) hb)
    clear hb
    clear PD_4 PM_4
    obtain ⟨uX0, uX1⟩ := PX_5.out
    have gX := PX_5.out.lt
    go_wp2_with fail
    refine (siv_any _ _ _).mono ?_
    rw [HQ.out]
    rintro e w6 ⟨rfl, hb⟩
    have PD_6 := Lib.hid ((PD_5.out.alloc _).keep hb)
    have PM_6 := Lib.hid ((PM_5.out.alloc _).keep hb)
    have PX_6 := Lib.hid ((PX_5.out.alloc _).keep hb)
    have PY_6 := Lib.hid ((Pair.new w5 p' q' 42).keep hb)
    have B6 := Lib.hid (bel_end (B5.out.alloc B5.out.size (.cells #[.int .i64 p', .int .i64 q'] 42)) hb)
    clear hb
    clear uX0 uX1 gX
    clear PD_5 PM_5 PX_5
    go_upto_region 9 with fail
    obtain ⟨w7, hW⟩ : ∃ W, W = (w6.alloc (.cells #[.int .i64 p', .int .i64 q'] 42)) := ⟨_, rfl⟩
    have hb : Below w6.heap.size w6 w7 := by rw [hW]; exact (by repeat (first | exact Below.refl _ _ | (refine Below.alloc ?_ (by simp <;> omega) _) | (refine Below.setCell ?_ (by simp <;> omega) _) | (refine Below.drew ?_) | (refine bel_drewN ?_ _)))
    have PD_7 := Lib.hid (PD_6.out.keep hb)
    have PM_7 := Lib.hid (PM_6.out.keep hb)
    have PX_7 := Lib.hid (PX_6.out.keep hb)
    have PY_7 := Lib.hid (PY_6.out.keep hb)
    have PZ_7 : Hid (Pair w7 w6.heap.size p' q') := Lib.hid (by rw [hW]; exact Pair.new w6 p' q' 42)
    have B7 := Lib.hid (bel_end B6.out hb)
    rw [← hW]
    clear hW hb
    clear PD_6 PM_6 PX_6 PY_6
    obtain ⟨uD0, uD1⟩ := PD_7.out
    have gD := PD_7.out.lt
    obtain ⟨uM0, uM1⟩ := PM_7.out
    have gM := PM_7.out.lt
    obtain ⟨uX0, uX1⟩ := PX_7.out
    have gX := PX_7.out.lt
    obtain ⟨uY0, uY1⟩ := PY_7.out
    have gY := PY_7.out.lt
    obtain ⟨uZ0, uZ1⟩ := PZ_7.out
    have gZ := PZ_7.out.lt
    go_cut [73] (fun s wx => s = .bool false ∧ Below w7.heap.size w7 wx)
    case first =>
      go_region_held3 (fun w' => w'.cell? ⟨w2.heap.size, 0, none⟩ = some (.int .i64 p) ∧ w'.cell? ⟨w2.heap.size, 1, none⟩ = some (.int .i64 q) ∧ w'.cell? ⟨w3.heap.size, 0, none⟩ = some (.int .i64 p) ∧ w'.cell? ⟨w3.heap.size, 1, none⟩ = some (.int .i64 q) ∧ w'.cell? ⟨w4.heap.size, 0, none⟩ = some (.int .i64 x) ∧ w'.cell? ⟨w4.heap.size, 1, none⟩ = some (.int .i64 y) ∧ w'.cell? ⟨w5.heap.size, 0, none⟩ = some (.int .i64 p') ∧ w'.cell? ⟨w5.heap.size, 1, none⟩ = some (.int .i64 q') ∧ w'.cell? ⟨w6.heap.size, 0, none⟩ = some (.int .i64 p') ∧ w'.cell? ⟨w6.heap.size, 1, none⟩ = some (.int .i64 q') ∧ Below w7.heap.size w7 w')
        (first
          | (exact ⟨uD0, uD1, uM0, uM1, uX0, uX1, uY0, uY1, uZ0, uZ1, (Below.refl _ w7).drew⟩)
          | (go_split_ands; exact ⟨keep1 (by assumption) hb, keep1 (by assumption) hb, keep1 (by assumption) hb, keep1 (by assumption) hb, keep1 (by assumption) hb, keep1 (by assumption) hb, keep1 (by assumption) hb, keep1 (by assumption) hb, keep1 (by assumption) hb, keep1 (by assumption) hb, bel_in hb (by assumption) (Nat.le_refl _)⟩))
        (first
          | (go_at_call 37; refine (irt_any _ _ _).mono ?_; rintro e wi ⟨rfl, hb⟩)
          | (go_at_call 38; refine (srt_any _ _ _).mono ?_; rintro e wj ⟨rfl, hb⟩))
      all_goals (go_wp2_with fail; go_meet; go_split_ands)
      all_goals (first | exact ⟨rfl, by assumption⟩ | exact ⟨by simp, by assumption⟩)
    case rest =>
      obtain ⟨rfl, hb⟩ := hcut
      clear uD0 uD1 gD uM0 uM1 gM uX0 uX1 gX uY0 uY1 gY uZ0 uZ1 gZ
      have PD_8 := Lib.hid (PD_7.out.keep hb)
      have PM_8 := Lib.hid (PM_7.out.keep hb)
      have PX_8 := Lib.hid (PX_7.out.keep hb)
      have PY_8 := Lib.hid (PY_7.out.keep hb)
      have PZ_8 := Lib.hid (PZ_7.out.keep hb)
      have B8 := Lib.hid (bel_end B7.out hb)
      clear hb PD_7 PM_7 PX_7 PY_7 PZ_7
      by_cases hc' : c' = 0
      · subst hc'
        obtain ⟨hi, hm⟩ := invT_0 HQ.out
        have HI := Lib.hid hi
        have HM := Lib.hid hm
        clear hi hm
        obtain ⟨uY0, uY1⟩ := PY_8.out
        have gY := PY_8.out.lt
        go_wp2_with fail
        refine (iiv_is HI.out _).mono ?_
        rintro e w9 ⟨rfl, hb⟩
        have PD_9 := Lib.hid (PD_8.out.keep hb)
        have PM_9 := Lib.hid (PM_8.out.keep hb)
        have PX_9 := Lib.hid (PX_8.out.keep hb)
        have PY_9 := Lib.hid (PY_8.out.keep hb)
        have PZ_9 := Lib.hid (PZ_8.out.keep hb)
        have B9 := Lib.hid (bel_end B8.out hb)
        clear hb
        clear uY0 uY1 gY
        clear PD_8 PM_8 PX_8 PY_8 PZ_8
        obtain ⟨uX0, uX1⟩ := PX_9.out
        have gX := PX_9.out.lt
        obtain ⟨uY0, uY1⟩ := PY_9.out
        have gY := PY_9.out.lt
        go_wp2_with fail
        refine (imu_is HM.out _).mono ?_
        rintro e w10 ⟨rfl, hb⟩
        have PD_10 := Lib.hid ((PD_9.out.alloc _).keep hb)
        have PM_10 := Lib.hid ((PM_9.out.alloc _).keep hb)
        have PX_10 := Lib.hid ((PX_9.out.alloc _).keep hb)
        have PY_10 := Lib.hid ((PY_9.out.alloc _).keep hb)
        have PZ_10 := Lib.hid ((PZ_9.out.alloc _).keep hb)
        have PV_10 := Lib.hid ((Pair.new w9 x y 42).keep hb)
        have B10 := Lib.hid (bel_end (B9.out.alloc B9.out.size (.cells #[.int .i64 x, .int .i64 y] 42)) hb)
        clear hb
        clear uX0 uX1 gX uY0 uY1 gY
        clear PD_9 PM_9 PX_9 PY_9 PZ_9
        obtain ⟨uV0, uV1⟩ := PV_10.out
        have gV := PV_10.out.lt
        obtain ⟨uX0, uX1⟩ := PX_10.out
        have gX := PX_10.out.lt
        by_cases hc : c = 0
        · subst hc
          obtain ⟨hr, hv⟩ := madT_0 HT.out
          have HR := Lib.hid hr
          have HV := Lib.hid hv
          clear hr hv
          obtain ⟨uD0, uD1⟩ := PD_10.out
          have gD := PD_10.out.lt
          go_wp2_with fail
          refine (irt_is HR.out _).mono ?_
          rintro e w11 ⟨rfl, hb⟩
          have PD_11 := Lib.hid ((PD_10.out.alloc _).keep hb)
          have PM_11 := Lib.hid ((PM_10.out.alloc _).keep hb)
          have PX_11 := Lib.hid ((PX_10.out.alloc _).keep hb)
          have PY_11 := Lib.hid ((PY_10.out.alloc _).keep hb)
          have PZ_11 := Lib.hid ((PZ_10.out.alloc _).keep hb)
          have PV_11 := Lib.hid ((PV_10.out.alloc _).keep hb)
          have PW_11 := Lib.hid ((Pair.new w10 1 1 42).keep hb)
          have B11 := Lib.hid (bel_end (B10.out.alloc B10.out.size (.cells #[.int .i64 1, .int .i64 1] 42)) hb)
          clear hb
          clear uD0 uD1 gD
          clear PD_10 PM_10 PX_10 PY_10 PZ_10 PV_10
          obtain ⟨uD0, uD1⟩ := PD_11.out
          have gD := PD_11.out.lt
          go_wp2_with fail
          refine (lik_any _ _ _ _ HV.out _).mono ?_
          rintro e w12 ⟨rfl, hb⟩
          have PD_12 := Lib.hid (PD_11.out.keep hb)
          have PM_12 := Lib.hid (PM_11.out.keep hb)
          have PX_12 := Lib.hid (PX_11.out.keep hb)
          have PY_12 := Lib.hid (PY_11.out.keep hb)
          have PZ_12 := Lib.hid (PZ_11.out.keep hb)
          have PV_12 := Lib.hid (PV_11.out.keep hb)
          have PW_12 := Lib.hid (PW_11.out.keep hb)
          have B12 := Lib.hid (bel_end B11.out hb)
          clear hb
          clear uD0 uD1 gD
          clear PD_11 PM_11 PX_11 PY_11 PZ_11 PV_11 PW_11
          go_wp2
          go_ret
          exact ⟨rfl, B12.out⟩
        · have hcn : (c != 0) = true := by simpa using hc
          go_wp2
          go_ret
          exact ⟨rfl, B10.out.alloc B10.out.size _⟩
      · have hcn' : (c' == 0) = false := by simpa using hc'
        by_cases hc : c = 0
        · subst hc
          obtain ⟨hr, hv⟩ := madT_0 HT.out
          have HR := Lib.hid hr
          have HV := Lib.hid hv
          clear hr hv
          obtain ⟨uD0, uD1⟩ := PD_8.out
          have gD := PD_8.out.lt
          go_wp2_with fail
          refine (irt_is HR.out _).mono ?_
          rintro e w9 ⟨rfl, hb⟩
          have PD_9 := Lib.hid (PD_8.out.keep hb)
          have PM_9 := Lib.hid (PM_8.out.keep hb)
          have PX_9 := Lib.hid (PX_8.out.keep hb)
          have PY_9 := Lib.hid (PY_8.out.keep hb)
          have PZ_9 := Lib.hid (PZ_8.out.keep hb)
          have B9 := Lib.hid (bel_end B8.out hb)
          clear hb
          clear uD0 uD1 gD
          clear PD_8 PM_8 PX_8 PY_8 PZ_8
          obtain ⟨uD0, uD1⟩ := PD_9.out
          have gD := PD_9.out.lt
          go_wp2_with fail
          refine (lik_any _ _ _ _ HV.out _).mono ?_
          rintro e w10 ⟨rfl, hb⟩
          have PD_10 := Lib.hid (PD_9.out.keep hb)
          have PM_10 := Lib.hid (PM_9.out.keep hb)
          have PX_10 := Lib.hid (PX_9.out.keep hb)
          have PY_10 := Lib.hid (PY_9.out.keep hb)
          have PZ_10 := Lib.hid (PZ_9.out.keep hb)
          have B10 := Lib.hid (bel_end B9.out hb)
          clear hb
          clear uD0 uD1 gD
          clear PD_9 PM_9 PX_9 PY_9 PZ_9
          go_wp2
          go_ret
          exact ⟨rfl, B10.out⟩
        · have hcn : (c != 0) = true := by simpa using hc
          go_wp2
          go_ret
          exact ⟨rfl, B8.out⟩
end Go.Proofs.Ytkbgbhbnkffneaa
