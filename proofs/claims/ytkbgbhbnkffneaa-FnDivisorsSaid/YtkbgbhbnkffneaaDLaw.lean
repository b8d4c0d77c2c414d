/- The walk of the law of divisors over drawn numbers. -/
import Derived.Test.YtkbgbhbnkffneaaQLaw
import Derived.Test.YtkbgbhbnkffneaaDivs
namespace Go.Proofs.Ytkbgbhbnkffneaa
open Go.ChangeShapes Go.WideShapes Go.ChangeAt Go.RowKit Num
set_option linter.unusedVariables false
theorem dcd_any (w : World) (a : Option Addr) (cap : Nat) (zs : List Int) (h : Code8 w w.heap.size a zs) :
    Calls Try.prog 18 #[.slice a zs.length cap] w (TwoDrawn w) := by
  have H := Lib.hid h
  clear h
  go_enter Try.func18, Try.ntmps18
  go_wp2_with fail
  refine (from_any _ _ _ zs H.out).mono ?_
  rintro e w1 ⟨s, rfl, hs, hsrc, hb⟩
  have S1 := Lib.hid hsrc
  have B1 := Lib.hid hb
  clear hsrc hb
  go_wp2_with fail
  refine (nxt_any _ _ _ S1.out).mono ?_
  rintro e w2 ⟨x, rfl, hx0, hx1, -, hsrc, hg⟩
  have S2 := Lib.hid hsrc
  have B2 := Lib.hid (B1.out.trans (below_of_grown hg hs B1.out.size))
  have hxb := hx1 (by omega)
  clear hsrc hg hx1
  go_wp2_with fail
  refine (nxt_any _ _ _ S2.out).mono ?_
  rintro e w3 ⟨y, rfl, hy0, hy1, -, hsrc, hg⟩
  have S3 := Lib.hid hsrc
  have B3 := Lib.hid (B2.out.trans (below_of_grown hg hs B2.out.size))
  have hyb := hy1 (by omega)
  clear hsrc hg hy1
  by_cases hy : y = 0
  · subst hy
    go_wp2_with fail
    refine (dv_any _ _ S3.out).mono ?_
    rintro e w4 ⟨u, rfl, wu, hsrc, hg⟩
    have S4 := Lib.hid hsrc
    have B4 := Lib.hid (B3.out.trans (below_of_grown hg hs B3.out.size))
    clear hsrc hg
    go_wp2_with fail
    refine (dv_any _ _ S4.out).mono ?_
    rintro e w5 ⟨v, rfl, wv, hsrc, hg⟩
    have B5 := Lib.hid (B4.out.trans (below_of_grown hg hs B4.out.size))
    clear hsrc hg
    go_wp2
    go_ret2
    exact ⟨u, v, rfl, wu, wv, B5.out⟩
  · have hyf : (y == 0) = false := by simpa using hy
    go_wp2_with fail
    refine (nxt_any _ _ _ S3.out).mono ?_
    rintro e w4 ⟨u, rfl, hu0, hu1, -, hsrc, hg⟩
    have S4 := Lib.hid hsrc
    have B4 := Lib.hid (B3.out.trans (below_of_grown hg hs B3.out.size))
    have hub := hu1 (by omega)
    clear hsrc hg hu1
    have pb : ∀ t : Int, -100 ≤ t → t ≤ 100 → -6000 ≤ (1 + x) * t ∧ (1 + x) * t ≤ 6000 := by
      intro t t1 t2
      have h1 := Int.mul_le_mul_of_nonneg_left t1 (show 0 ≤ 1 + x by omega)
      have h2 := Int.mul_le_mul_of_nonneg_left t2 (show 0 ≤ 1 + x by omega)
      omega
    obtain ⟨u1, u2⟩ := pb (u - 100) (by omega) (by omega)
    go_wp2_with fail
    refine (nxt_any _ _ _ S4.out).mono ?_
    rintro e w5 ⟨v, rfl, hv0, hv1, -, hsrc, hg⟩
    have B5 := Lib.hid (B4.out.trans (below_of_grown hg hs B4.out.size))
    have hvb := hv1 (by omega)
    clear hsrc hg hv1
    obtain ⟨v1, v2⟩ := pb (v - 100) (by omega) (by omega)
    clear pb
    go_wp2
    go_ret2
    exact ⟨(1 + x) * (u - 100), (1 + x) * (v - 100), rfl, wf64 (by omega) (by omega), wf64 (by omega) (by omega), B5.out⟩

theorem gcode_0 {a b : Int} (h : gcode a b = 0) : valB a = true ∧ valB b = true := by
  unfold gcode at h; split at h
  · rename_i g; simpa using g
  · simp at h
/-- what is true of a greatest common divisor that is not 0 -/
theorem gc_facts (a b : Int) (h : gcode a b = 0) (h0 : gval a b ≠ 0) :
    ∃ g, gval a b = g ∧ 0 < g ∧ (a.tmod g == 0) = true ∧ (b.tmod g == 0) = true ∧ gcode (a.tdiv g) (b.tdiv g) = 0 ∧ gval (a.tdiv g) (b.tdiv g) = 1 := by
  obtain ⟨va, vb⟩ := gcode_0 h
  have e : gval a b = gc a b := by unfold gval; rw [va, vb]; rfl
  rw [e] at h0 ⊢
  have ga : (gc a b) ∣ a := Int.gcd_dvd_left a b
  have gb : (gc a b) ∣ b := Int.gcd_dvd_right a b
  have hpos : 0 < gc a b := by unfold gc at h0 ⊢; omega
  obtain ⟨a1, a2⟩ := valB_t va
  obtain ⟨b1, b2⟩ := valB_t vb
  have ta := tdiv_bd a (gc a b)
  have tb := tdiv_bd b (gc a b)
  have va2 : valB (a.tdiv (gc a b)) = true := valB_mk (by omega) (by omega)
  have vb2 : valB (b.tdiv (gc a b)) = true := valB_mk (by omega) (by omega)
  refine ⟨_, rfl, hpos, by simpa using Int.tmod_eq_zero_of_dvd ga, by simpa using Int.tmod_eq_zero_of_dvd gb, by unfold gcode; rw [va2, vb2]; rfl, ?_⟩
  unfold gval; rw [va2, vb2]
  show gc _ _ = 1
  have h1 : (a.tdiv (gc a b)).natAbs = a.natAbs / (gc a b).natAbs := Int.natAbs_tdiv _ _
  have h2 : (b.tdiv (gc a b)).natAbs = b.natAbs / (gc a b).natAbs := Int.natAbs_tdiv _ _
  have h3 : (gc a b).natAbs = Nat.gcd a.natAbs b.natAbs := by unfold gc Int.gcd; omega
  have : Int.gcd (a.tdiv (gc a b)) (b.tdiv (gc a b)) = 1 := by
    unfold Int.gcd
    rw [h1, h2, h3]
    exact Nat.coprime_div_gcd_div_gcd (by omega)
  show ((Int.gcd (a.tdiv (gc a b)) (b.tdiv (gc a b)) : Nat) : Int) = 1
  rw [this]; rfl
theorem gval_zero {a b : Int} (h : gcode a b = 0) (h0 : gval a b = 0) : a = 0 ∧ b = 0 := by
  obtain ⟨va, vb⟩ := gcode_0 h
  have e : gval a b = gc a b := by unfold gval; rw [va, vb]; rfl
  rw [e] at h0
  unfold gc at h0
  exact Int.gcd_eq_zero_iff.1 (by omega)

set_option maxHeartbeats 2000000 in
theorem ldivs (a0 : Option Addr) (len0 cap0 : Nat) (z0 : List Int) (w : World) (w0 : IsRow .u8 w a0 len0 cap0 z0) :
    Calls Try.prog 3 #[.slice a0 len0 cap0] w fun e w' => e = .returned (.bool true) ∧ Below w.heap.size w w' := by
  obtain ⟨hlen, hcode⟩ := Code8.of_row w0
  obtain ⟨zs, hzs⟩ : ∃ zs, z0.take len0 = zs := ⟨_, rfl⟩
  rw [hzs] at hlen hcode
  subst hlen
  clear hzs w0
  have HC := Lib.hid hcode
  clear hcode
  by_cases hbig : 4096 < zs.length
  · have hd : decide ((4096 : Int) < (zs.length : Int)) = true := by simp; omega
    go_enter Try.func3, Try.ntmps3
    go_wp2_with (go_at_call 17; refine (big_any _ _ _ _).mono ?_; rw [hd]; rintro e w' ⟨rfl, rfl⟩)
    go_ret
    exact ⟨rfl, Below.refl _ _⟩
  · have hd : decide ((4096 : Int) < (zs.length : Int)) = false := by simp; omega
    go_enter Try.func3, Try.ntmps3
    go_wp2_with (go_at_call 17; refine (big_any _ _ _ _).mono ?_; rw [hd]; rintro e w' ⟨rfl, rfl⟩)
    clear hd
    refine (dcd_any _ _ _ zs HC.out).mono ?_
    rintro e w1 ⟨a, b, rfl, wa, wb, hb⟩
    have B1 := Lib.hid hb
    clear hb wa wb
    by_cases h : gcode a b = 0
    · by_cases hz : gval a b = 0
      · obtain ⟨rfl, rfl⟩ := gval_zero h hz
        have HD := Lib.hid h
        have HZ := Lib.hid hz
        clear h hz
        go_wp2_with (first | (go_at_call 19; refine (icd_any 0 0 _).mono ?_; rw [HZ.out, HD.out]; rintro e w' ⟨rfl, n1, rfl⟩) | (go_at_call 20; refine (scd_any 0 0 _).mono ?_; rw [HZ.out, HD.out]; rintro e w' ⟨rfl, n2, rfl⟩))
        go_ret
        exact ⟨rfl, below_drewN B1.out _⟩
      · obtain ⟨g, hg, g0, ta, tb, hc1, hv1⟩ := gc_facts a b h hz
        obtain ⟨va, vb⟩ := gcode_0 h
        obtain ⟨a1, a2⟩ := valB_t va
        obtain ⟨b1, b2⟩ := valB_t vb
        have HD := Lib.hid h
        have HG := Lib.hid hg
        have hcall : ∀ wx, Calls Try.prog 19 #[.int .i64 (a.tdiv g), .int .i64 (b.tdiv g)] wx fun e w' => e = .returned (.tuple #[.int .i64 1, .int .i64 0]) ∧ ∃ n, w' = wx.drewN n := fun wx => by
          have := icd_any (a.tdiv g) (b.tdiv g) wx
          rw [hc1, hv1] at this
          exact this
        have HCALL := Lib.hid hcall
        clear hcall
        have da := tdiv_bd a g
        have db := tdiv_bd b g
        have d1 : -1000000000000 ≤ a.tdiv g := by omega
        have d2 : a.tdiv g ≤ 1000000000000 := by omega
        have d3 : -1000000000000 ≤ b.tdiv g := by omega
        have d4 : b.tdiv g ≤ 1000000000000 := by omega
        have gne : ¬ g = 0 := by omega
        have gnb : (g == 0) = false := by simp; omega
        have wa : IntKind.i64.wrap (a.tdiv g) = a.tdiv g := IntWalk.i64_in _ (by omega)
        have wb : IntKind.i64.wrap (b.tdiv g) = b.tdiv g := IntWalk.i64_in _ (by omega)
        clear h hz hg va vb hc1 hv1 da db
        go_wp2_with (first | (go_at_call 19; refine (icd_any a b _).mono ?_; rw [HG.out, HD.out]; rintro e w' ⟨rfl, n1, rfl⟩) | (go_at_call 20; refine (scd_any a b _).mono ?_; rw [HG.out, HD.out]; rintro e w' ⟨rfl, n2, rfl⟩))
        have HB2 := Lib.hid (below_drewN B1.out (n1 + n2))
        generalize w1.drewN (n1 + n2) = w2 at HB2 ⊢
        go_quiet ((go_at_call 19; exact Calls.quiet_of (HCALL.out _)))
        go_wp2
        go_ret
        exact ⟨rfl, below_drewN HB2.out _⟩
    · have hb0 : (gcode a b != 0) = true := by simpa using h
      clear h
      go_wp2_with (first | (go_at_call 19; refine (icd_any a b _).mono ?_; rintro e w' ⟨rfl, n1, rfl⟩) | (go_at_call 20; refine (scd_any a b _).mono ?_; rintro e w' ⟨rfl, n2, rfl⟩))
      go_ret
      exact ⟨rfl, below_drewN B1.out _⟩
end Go.Proofs.Ytkbgbhbnkffneaa
