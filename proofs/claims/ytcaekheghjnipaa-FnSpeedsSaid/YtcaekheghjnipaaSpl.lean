/- The walk of the law of speeds. -/
import Derived.Test.YtcaekheghjnipaaDDp
import Derived.Test.YtcaekheghjnipaaSpd
import Derived.Deep.RegionHeld3
import Derived.Deep.DeepCutAuto
namespace Go.Proofs.Ytcaekheghjnipaa
open Go.ChangeShapes Go.WideShapes Go.ChangeAt Go.RowKit Go.Shelf Num
set_option linter.unusedVariables false
attribute [local go_sem ↓] Go.wp_at_zero Go.wp_at_succ

theorem fd_mono {a b H : Int} (hH : 0 < H) (h1 : a * H ≤ b) : a ≤ b.fdiv H := by
  rw [Int.fdiv_eq_ediv_of_nonneg _ (by omega)]
  exact (Int.le_ediv_iff_mul_le hH).2 h1
theorem cd_mono {a b H : Int} (hH : 0 < H) (h1 : b ≤ a * H) : cdiv b H ≤ a := by
  have := fd_mono (a := -a) (b := -b) hH (by rw [Int.neg_mul]; omega)
  unfold cdiv
  omega
theorem cd_fd {b H : Int} (hH : 0 < H) : b.fdiv H ≤ cdiv b H ∧ cdiv b H - b.fdiv H ≤ 1 := by
  have h := Num.cdiv_eq b H (by omega)
  show b.fdiv H ≤ -((-b).fdiv H) ∧ -((-b).fdiv H) - b.fdiv H ≤ 1
  rw [h]
  split <;> omega
structure SpF (zs ys : List Int) (x X Y : Int) (K : Nat) : Prop where
  k1 : K + 1 < zs.length
  k2 : K + 1 < ys.length
  z0 : zs.getD K 0 ≤ x
  z1 : x ≤ zs.getD (K + 1) 0
  lo : X ≥ ys.getD K 0 ∨ X ≥ ys.getD (K + 1) 0
  lo2 : ys.getD K 0 ≤ ys.getD (K + 1) 0 → X ≥ ys.getD K 0
  lo3 : ys.getD (K + 1) 0 ≤ ys.getD K 0 → X ≥ ys.getD (K + 1) 0
  hi2 : ys.getD K 0 ≤ ys.getD (K + 1) 0 → Y ≤ ys.getD (K + 1) 0
  hi3 : ys.getD (K + 1) 0 ≤ ys.getD K 0 → Y ≤ ys.getD K 0
  d : Y - X ≤ 1
  xy : X ≤ Y
  y0 : 1300000 ≤ ys.getD K 0
  y1 : ys.getD K 0 ≤ 1700000
  y2 : 1300000 ≤ ys.getD (K + 1) 0
  y3 : ys.getD (K + 1) 0 ≤ 1700000
theorem sp_fact {zs ys : List Int} {x X Y : Int} (h : spT zs ys x = (X, Y, 0)) : ∃ K : Nat, lyV zs ys x = (K : Int) ∧ SpF zs ys x X Y K := by
  cases hv : prfB zs ys
  · rw [spT_f hv] at h; simp at h
  · cases hh : hdB zs x
    · rw [spT_g hv hh] at h; simp at h
    · have O := Okp.of hv
      obtain ⟨d0, d1⟩ := hdB_t hh
      rw [spT_t hv hh] at h
      simp only [Prod.mk.injEq, and_true] at h
      obtain ⟨rfl, rfl⟩ := h
      refine ⟨layN zs x, lyV_t hv hh, ?_⟩
      have hlt := layN_lt O d1
      have h1 := layN_le O d0
      have h2 := layN_ge O d1
      have h3 := O.step _ hlt
      have l2 := O.len
      obtain ⟨K, hK⟩ : ∃ K, layN zs x = K := ⟨_, rfl⟩
      rw [hK] at hlt h1 h2 h3 ⊢
      have a1 := O.slo K (by omega)
      have a2 := O.shi K
      have a3 := O.slo (K + 1) hlt
      have a4 := O.shi (K + 1)
      unfold spR spH
      obtain ⟨u, hu⟩ : ∃ u, ys.getD K 0 = u := ⟨_, rfl⟩
      obtain ⟨v, hv2⟩ : ∃ u, ys.getD (K + 1) 0 = u := ⟨_, rfl⟩
      obtain ⟨p, hp⟩ : ∃ u, zs.getD K 0 = u := ⟨_, rfl⟩
      obtain ⟨q, hq⟩ : ∃ u, zs.getD (K + 1) 0 = u := ⟨_, rfl⟩
      rw [hu] at a1 a2
      rw [hv2] at a3 a4
      rw [hp] at h1 h3
      rw [hq] at h2 h3
      have hH : 0 < q - p := by omega
      have hc := cd_fd (b := (v - u) * (x - p)) hH
      have up : u ≤ v → 0 ≤ ((v - u) * (x - p)).fdiv (q - p) ∧ cdiv ((v - u) * (x - p)) (q - p) ≤ v - u := fun e =>
        ⟨fd_mono hH (by have := Int.mul_nonneg (show 0 ≤ v - u by omega) (show 0 ≤ x - p by omega); omega),
         cd_mono hH (Int.mul_le_mul_of_nonneg_left (by omega) (by omega))⟩
      have dn : v ≤ u → v - u ≤ ((v - u) * (x - p)).fdiv (q - p) ∧ cdiv ((v - u) * (x - p)) (q - p) ≤ 0 := fun e => by
        have m1 := Int.mul_le_mul_of_nonneg_left (show x - p ≤ q - p by omega) (show 0 ≤ u - v by omega)
        have m2 := Int.mul_nonneg (show 0 ≤ u - v by omega) (show 0 ≤ x - p by omega)
        have e1 : (v - u) * (x - p) = -((u - v) * (x - p)) := by rw [← Int.neg_mul, Int.neg_sub]
        have e2 : (v - u) * (q - p) = -((u - v) * (q - p)) := by rw [← Int.neg_mul, Int.neg_sub]
        exact ⟨fd_mono hH (by omega), cd_mono hH (by omega)⟩
      refine ⟨hlt, by omega, by omega, by omega, ?_, ?_, ?_, ?_, ?_, by rw [hu, hv2, hp, hq]; omega, by rw [hu, hv2, hp, hq]; omega, by omega, by omega, by omega, by omega⟩
      all_goals rw [hu, hv2, hp, hq]
      · rcases Int.le_total u v with e | e
        · have := up e; omega
        · have := dn e; omega
      · intro e; have := up e; omega
      · intro e; have := dn e; omega
      · intro e; have := up e; omega
      · intro e; have := dn e; omega

set_option maxRecDepth 100000 in
set_option maxHeartbeats 4000000 in
theorem lspl (a0 : Option Addr) (len0 cap0 : Nat) (z0 : List Int) (w : World) (w0 : IsRow .u8 w a0 len0 cap0 z0) :
    Calls Try.prog 14 #[.slice a0 len0 cap0] w fun e w' => e = .returned (.bool true) ∧ Below w.heap.size w w' := by
  obtain ⟨hln, hc⟩ := Code8.of_row w0
  clear w0
  obtain ⟨cs, hcs⟩ : ∃ cs, z0.take len0 = cs := ⟨_, rfl⟩
  rw [hcs] at hln hc
  subst hln
  clear hcs
  have HC := Lib.hid hc
  clear hc
  by_cases hbig : 4096 < (cs.length : Int)
  · have HB0 : Hid (decide (4096 < (cs.length : Int)) = true) := Lib.hid (decide_eq_true hbig)
    clear hbig
    go_enter Try.func14, Try.ntmps14
    go_wp2_with fail
    refine (big_any _ _ _ _).mono ?_
    rw [HB0.out]
    rintro e w1 ⟨rfl, rfl⟩
    go_wp2
    go_ret
    exact ⟨rfl, Below.refl _ _⟩
  have HB0 : Hid (decide (4096 < (cs.length : Int)) = false) := Lib.hid (decide_eq_false hbig)
  clear hbig
  go_enter Try.func14, Try.ntmps14
  go_wp2_with fail
  refine (big_any _ _ _ _).mono ?_
  rw [HB0.out]
  rintro e w1 ⟨rfl, hw1⟩
  subst hw1
  go_wp2_with fail
  refine (dsp_any _ _ _ cs HC.out).mono ?_
  rintro e w1 ⟨a1, b1, c1, d1, zs, ys, x, rfl, hp, hb⟩
  have HB := Lib.hid hb
  have HP := Lib.hid hp
  clear hp
  obtain ⟨⟨X, Y, e1⟩, hU⟩ : ∃ U, spT zs ys x = U := ⟨_, rfl⟩
  obtain ⟨k, hk⟩ : ∃ U, lyV zs ys x = U := ⟨_, rfl⟩
  obtain ⟨e2, he2⟩ : ∃ U, cdT (prfB zs ys) (hdB zs x) = U := ⟨_, rfl⟩
  have KA : Hid (∀ (w : World) (a b : Option Addr) (c_ d_ : Nat), Prof w w.heap.size a b zs ys → Calls Try.prog 51 #[.agg #[.slice a zs.length c_, .slice b ys.length d_], .int .i64 x] w fun e w' => e = .returned (.tuple #[.agg #[.int .i64 X, .int .i64 Y], .int .i64 e1]) ∧ Below w.heap.size w w') := Lib.hid (fun w a b c_ d_ hp => by have := ispd_any w a b c_ d_ zs ys x hp; rwa [hU] at this)
  have KB : Hid (∀ (w : World) (a b : Option Addr) (c_ d_ : Nat), Prof w w.heap.size a b zs ys → Calls Try.prog 52 #[.agg #[.slice a zs.length c_, .slice b ys.length d_], .int .i64 x] w fun e w' => e = .returned (.tuple #[.agg #[.int .i64 X, .int .i64 Y], .int .i64 e1]) ∧ Below w.heap.size w w') := Lib.hid (fun w a b c_ d_ hp => by have := sspd_any w a b c_ d_ zs ys x hp; rwa [hU] at this)
  have KC : Hid (∀ (w : World) (a b : Option Addr) (c_ d_ : Nat), Prof w w.heap.size a b zs ys → Calls Try.prog 53 #[.agg #[.slice a zs.length c_, .slice b ys.length d_], .int .i64 x] w fun e w' => e = .returned (.tuple #[.int .i64 k, .int .i64 e2]) ∧ Below w.heap.size w w') := Lib.hid (fun w a b c_ d_ hp => by have := ily_any w a b c_ d_ zs ys x hp; rwa [hk, he2] at this)
  have KD : Hid (∀ (w : World) (a b : Option Addr) (c_ d_ : Nat), Prof w w.heap.size a b zs ys → Calls Try.prog 54 #[.agg #[.slice a zs.length c_, .slice b ys.length d_], .int .i64 x] w fun e w' => e = .returned (.tuple #[.int .i64 k, .int .i64 e2]) ∧ Below w.heap.size w w') := Lib.hid (fun w a b c_ d_ hp => by have := slyo_any w a b c_ d_ zs ys x hp; rwa [hk, he2] at this)
  have F1 : Hid (e1 = 0 → ∃ K : Nat, k = (K : Int) ∧ SpF zs ys x X Y K) := Lib.hid (fun h1 => by subst h1; have := sp_fact hU; rwa [hk] at this)
  clear hU hk he2
  clear hb
  go_wp2_with fail
  obtain ⟨W2, hW⟩ : ∃ W, W = (w1.alloc (.cells #[.slice a1 zs.length c1, .slice b1 ys.length d1] 42)) := ⟨_, rfl⟩
  have hb : Below w1.heap.size w1 W2 := by rw [hW]; exact (by repeat (first | exact Below.refl _ _ | (refine Below.alloc ?_ (by simp <;> omega) _) | (refine Below.setCell ?_ (by simp <;> omega) _) | (refine Below.drew ?_) | (refine bel_drewN ?_ _)))
  have bA : Bk W2 (w1.heap.size) #[.slice a1 zs.length c1, .slice b1 ys.length d1] 42 := by rw [hW]; exact (Bk.new' (by simp))
  replace HP := Lib.hid (HP.out.on hb)
  replace HB := Lib.hid (bel_end HB.out hb)
  rw [← hW]
  clear hW hb
  have bA_0 := bA.cell 0 rfl
  have bA_1 := bA.cell 1 rfl
  have bA_l := bA.lt
  refine (KA.out _ _ _ _ _ HP.out.at_).mono ?_
  rintro e w3 ⟨rfl, hb⟩
  replace bA := bA.on hb
  replace HP := Lib.hid (HP.out.on hb)
  replace HB := Lib.hid (bel_end HB.out hb)
  clear hb
  clear bA_0 bA_1 bA_l
  have bA_0 := bA.cell 0 rfl
  have bA_1 := bA.cell 1 rfl
  have bA_l := bA.lt
  go_wp2_with fail
  obtain ⟨W4, hW⟩ : ∃ W, W = (w3.alloc (.cells #[.int .i64 X, .int .i64 Y] 47)) := ⟨_, rfl⟩
  have hb : Below w3.heap.size w3 W4 := by rw [hW]; exact (by repeat (first | exact Below.refl _ _ | (refine Below.alloc ?_ (by simp <;> omega) _) | (refine Below.setCell ?_ (by simp <;> omega) _) | (refine Below.drew ?_) | (refine bel_drewN ?_ _)))
  have bX : Bk W4 (w3.heap.size) #[.int .i64 X, .int .i64 Y] 47 := by rw [hW]; exact (Bk.new' (by simp))
  replace bA := bA.on hb
  replace HP := Lib.hid (HP.out.on hb)
  replace HB := Lib.hid (bel_end HB.out hb)
  rw [← hW]
  clear bA_0 bA_1 bA_l
  clear hW hb
  have bA_0 := bA.cell 0 rfl
  have bA_1 := bA.cell 1 rfl
  have bA_l := bA.lt
  have bX_0 := bX.cell 0 rfl
  have bX_1 := bX.cell 1 rfl
  have bX_l := bX.lt
  refine (KB.out _ _ _ _ _ HP.out.at_).mono ?_
  rintro e w5 ⟨rfl, hb⟩
  replace bA := bA.on hb
  replace bX := bX.on hb
  replace HP := Lib.hid (HP.out.on hb)
  replace HB := Lib.hid (bel_end HB.out hb)
  clear hb
  clear bA_0 bA_1 bA_l bX_0 bX_1 bX_l
  have bA_0 := bA.cell 0 rfl
  have bA_1 := bA.cell 1 rfl
  have bA_l := bA.lt
  have bX_0 := bX.cell 0 rfl
  have bX_1 := bX.cell 1 rfl
  have bX_l := bX.lt
  go_wp2_with fail
  obtain ⟨W6, hW⟩ : ∃ W, W = (w5.alloc (.cells #[.int .i64 X, .int .i64 Y] 47)) := ⟨_, rfl⟩
  have hb : Below w5.heap.size w5 W6 := by rw [hW]; exact (by repeat (first | exact Below.refl _ _ | (refine Below.alloc ?_ (by simp <;> omega) _) | (refine Below.setCell ?_ (by simp <;> omega) _) | (refine Below.drew ?_) | (refine bel_drewN ?_ _)))
  have bY : Bk W6 (w5.heap.size) #[.int .i64 X, .int .i64 Y] 47 := by rw [hW]; exact (Bk.new' (by simp))
  replace bA := bA.on hb
  replace bX := bX.on hb
  replace HP := Lib.hid (HP.out.on hb)
  replace HB := Lib.hid (bel_end HB.out hb)
  rw [← hW]
  clear bA_0 bA_1 bA_l bX_0 bX_1 bX_l
  clear hW hb
  have bA_0 := bA.cell 0 rfl
  have bA_1 := bA.cell 1 rfl
  have bA_l := bA.lt
  have bX_0 := bX.cell 0 rfl
  have bX_1 := bX.cell 1 rfl
  have bX_l := bX.lt
  have bY_0 := bY.cell 0 rfl
  have bY_1 := bY.cell 1 rfl
  have bY_l := bY.lt
  refine (KC.out _ _ _ _ _ HP.out.at_).mono ?_
  rintro e w7 ⟨rfl, hb⟩
  replace bA := bA.on hb
  replace bX := bX.on hb
  replace bY := bY.on hb
  replace HP := Lib.hid (HP.out.on hb)
  replace HB := Lib.hid (bel_end HB.out hb)
  clear hb
  clear bA_0 bA_1 bA_l bX_0 bX_1 bX_l bY_0 bY_1 bY_l
  have bA_0 := bA.cell 0 rfl
  have bA_1 := bA.cell 1 rfl
  have bA_l := bA.lt
  have bX_0 := bX.cell 0 rfl
  have bX_1 := bX.cell 1 rfl
  have bX_l := bX.lt
  have bY_0 := bY.cell 0 rfl
  have bY_1 := bY.cell 1 rfl
  have bY_l := bY.lt
  go_wp2_with fail
  refine (KD.out _ _ _ _ _ HP.out.at_).mono ?_
  rintro e w8 ⟨rfl, hb⟩
  replace bA := bA.on hb
  replace bX := bX.on hb
  replace bY := bY.on hb
  replace HP := Lib.hid (HP.out.on hb)
  replace HB := Lib.hid (bel_end HB.out hb)
  clear KA KB KC KD
  clear hb
  clear bA_0 bA_1 bA_l bX_0 bX_1 bX_l bY_0 bY_1 bY_l
  by_cases h1 : e1 = 0
  case neg =>
    have h1b : (e1 != 0) = true := by simpa using h1
    clear F1
    have bA_0 := bA.cell 0 rfl
    have bA_1 := bA.cell 1 rfl
    have bA_l := bA.lt
    have bX_0 := bX.cell 0 rfl
    have bX_1 := bX.cell 1 rfl
    have bX_l := bX.lt
    have bY_0 := bY.cell 0 rfl
    have bY_1 := bY.cell 1 rfl
    have bY_l := bY.lt
    go_wp2
    go_ret
    exact ⟨rfl, HB.out⟩
  case pos =>
    obtain ⟨K, rfl, F⟩ := F1.out h1
    subst h1
    clear F1
    obtain ⟨k1, k2, z0_, z1_, -, lo2, lo3, hi2, hi3, fd, fxy, y0_, y1_, y2_, y3_⟩ := F
    obtain ⟨bz, oz, rfl, hBz, hcz⟩ := HP.out.at_.dz (show 0 < zs.length by omega)
    obtain ⟨by_, oy, rfl, hBy, hcy⟩ := HP.out.at_.sy (show 0 < ys.length by omega)
    have u0 := hcz K (by omega)
    have u1 := hcz (K + 1) k1
    have v0 := hcy K (by omega)
    have v1 := hcy (K + 1) k2
    clear hcz hcy hBz hBy
    obtain ⟨Z0, hZ0⟩ : ∃ z, zs.getD K 0 = z := ⟨_, rfl⟩
    obtain ⟨Z1, hZ1⟩ : ∃ z, zs.getD (K + 1) 0 = z := ⟨_, rfl⟩
    obtain ⟨Y0, hY0⟩ : ∃ z, ys.getD K 0 = z := ⟨_, rfl⟩
    obtain ⟨Y1, hY1⟩ : ∃ z, ys.getD (K + 1) 0 = z := ⟨_, rfl⟩
    rw [hZ0] at u0 z0_
    rw [hZ1] at u1 z1_
    rw [hY0] at v0 lo2 lo3 hi2 hi3 y0_ y1_
    rw [hY1] at v1 lo2 lo3 hi2 hi3 y2_ y3_
    clear hZ0 hZ1 hY0 hY1
    have n2 := HP.out.n1
    have n3 := HP.out.n2
    have ew : IntKind.wrap .i64 ((K : Int) + 1) = (K : Int) + 1 := IntWalk.i64_in _ (by omega)
    have q0 : (0 : Int) ≤ (K : Int) + 1 := by omega
    have q1 : ((K : Int) + 1).toNat = K + 1 := by omega
    have q2 : (K : Int) + 1 < (zs.length : Int) := by omega
    have q3 : (K : Int) + 1 < (ys.length : Int) := by omega
    have q5 : (K : Int) < (zs.length : Int) := by omega
    have q6 : (K : Int) < (ys.length : Int) := by omega
    have t8 : IntKind.wrap .i64 (Y - X) = Y - X := IntWalk.i64_in _ (by omega)
    have bA_0 := bA.cell 0 rfl
    have bA_1 := bA.cell 1 rfl
    have bA_l := bA.lt
    have bX_0 := bX.cell 0 rfl
    have bX_1 := bX.cell 1 rfl
    have bX_l := bX.lt
    have bY_0 := bY.cell 0 rfl
    have bY_1 := bY.cell 1 rfl
    have bY_l := bY.lt
    go_upto_region 12 with fail
    go_quiet (fail)
    by_cases huv : Y1 < Y0
    · have m1 : ¬ Y0 < Y1 := by omega
      have m2 := lo3 (by omega)
      have m3 := hi3 (by omega)
      clear lo2 lo3 hi2 hi3
      go_wp2
      go_ret
      exact ⟨rfl, bel_drewN HB.out _⟩
    · have m2 := lo2 (by omega)
      have m3 := hi2 (by omega)
      clear lo2 lo3 hi2 hi3
      by_cases hvu : Y0 < Y1
      · go_wp2
        go_ret
        exact ⟨rfl, bel_drewN HB.out _⟩
      · obtain rfl : Y0 = Y1 := by omega
        go_wp2
        go_ret
        exact ⟨rfl, bel_drewN HB.out _⟩
end Go.Proofs.Ytcaekheghjnipaa
