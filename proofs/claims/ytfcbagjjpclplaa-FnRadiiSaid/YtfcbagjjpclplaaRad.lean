/- The walk of the law of radii. -/
import Derived.Test.YtfcbagjjpclplaaDAr2
import Derived.Test.YtfcbagjjpclplaaArcU
import Derived.Deep.RegionHeld3
import Derived.Deep.DeepCutAuto
namespace Go.Proofs.Ytfcbagjjpclplaa
open Go.ChangeShapes Go.WideShapes Go.ChangeAt Go.RowKit Go.Shelf Num
set_option linter.unusedVariables false
attribute [local go_sem ↓] Go.wp_at_zero Go.wp_at_succ

set_option maxRecDepth 100000 in
set_option maxHeartbeats 4000000 in
theorem lrad (a0 : Option Addr) (len0 cap0 : Nat) (z0 : List Int) (w : World) (w0 : IsRow .u8 w a0 len0 cap0 z0) :
    Calls Try.prog 4 #[.slice a0 len0 cap0] w fun e w' => e = .returned (.bool true) ∧ Below w.heap.size w w' := by
  obtain ⟨hln, hc⟩ := Code8.of_row w0
  clear w0
  obtain ⟨cs, hcs⟩ : ∃ cs, z0.take len0 = cs := ⟨_, rfl⟩
  rw [hcs] at hln hc
  subst hln
  clear hcs
  have HC := Lib.hid hc
  clear hc
  by_cases hbig : 4096 < (cs.length : Int)
  · have HB0 : Hid (decide (4096 < (cs.length : Int)) = true) := Lib.hid (decide_eq_true hbig)
    clear hbig
    go_enter Try.func4, Try.ntmps4
    go_wp2_with fail
    refine (big_any _ _ _ _).mono ?_
    rw [HB0.out]
    rintro e w1 ⟨rfl, rfl⟩
    go_wp2
    go_ret
    exact ⟨rfl, Below.refl _ _⟩
  have HB0 : Hid (decide (4096 < (cs.length : Int)) = false) := Lib.hid (decide_eq_false hbig)
  clear hbig
  go_enter Try.func4, Try.ntmps4
  go_wp2_with fail
  refine (big_any _ _ _ _).mono ?_
  rw [HB0.out]
  rintro e w1 ⟨rfl, hw1⟩
  subst hw1
  go_wp2_with fail
  refine (dar_any _ _ _ cs HC.out).mono ?_
  rintro e w1 ⟨a1, b1, c1, d1, zs, ys, sr, c, s, h, k, rfl, hp, hb⟩
  have HB := Lib.hid hb
  have HP := Lib.hid hp.n
  clear hp
  obtain ⟨⟨X, Y, e1⟩, hU⟩ : ∃ U, rdF zs ys sr c s h k = U := ⟨_, rfl⟩
  have KA : Hid (∀ (w : World) (a b : Option Addr) (c_ d_ : Nat), Prof w w.heap.size a b zs ys → Calls Try.prog 21 #[.agg #[.slice a zs.length c_, .slice b ys.length d_], .int .i64 sr, .agg #[.int .i64 c, .int .i64 s, .int .i64 h], .int .i64 k] w fun e w' => e = .returned (.tuple #[.agg #[.int .i64 X, .int .i64 Y], .int .i64 e1]) ∧ Below w.heap.size w w') := Lib.hid (fun w a b c_ d_ hp => by have := ird_any w a b c_ d_ zs ys sr c s h k hp; rwa [hU] at this)
  have KB : Hid (∀ (w : World) (a b : Option Addr) (c_ d_ : Nat), Prof w w.heap.size a b zs ys → Calls Try.prog 22 #[.agg #[.slice a zs.length c_, .slice b ys.length d_], .int .i64 sr, .agg #[.int .i64 c, .int .i64 s, .int .i64 h], .int .i64 k] w fun e w' => e = .returned (.tuple #[.agg #[.int .i64 X, .int .i64 Y], .int .i64 e1]) ∧ Below w.heap.size w w') := Lib.hid (fun w a b c_ d_ hp => by have := srd_any w a b c_ d_ zs ys sr c s h k hp; rwa [hU] at this)
  have F1 : Hid (e1 = 0 → ∃ i j : Nat, sr = (i : Int) ∧ k = (j : Int) ∧ RdFact zs ys c h X Y i j) := Lib.hid (fun h1 => by subst h1; exact rad_fact hU)
  clear hU
  clear hb
  go_wp2_with fail
  obtain ⟨W2, hW⟩ : ∃ W, W = ((w1.alloc (.cells #[.slice a1 zs.length c1, .slice b1 ys.length d1] 39)).alloc (.cells #[.int .i64 c, .int .i64 s, .int .i64 h] 41)) := ⟨_, rfl⟩
  have hb : Below w1.heap.size w1 W2 := by rw [hW]; exact (by repeat (first | exact Below.refl _ _ | (refine Below.alloc ?_ (by simp <;> omega) _) | (refine Below.setCell ?_ (by simp <;> omega) _) | (refine Below.drew ?_) | (refine bel_drewN ?_ _)))
  have bA : Bk W2 (w1.heap.size) #[.slice a1 zs.length c1, .slice b1 ys.length d1] 39 := by rw [hW]; exact ((Bk.new' (by simp)).alloc _)
  have bD : Bk W2 (w1.heap.size + 1) #[.int .i64 c, .int .i64 s, .int .i64 h] 41 := by rw [hW]; exact (Bk.new' (by simp))
  replace HP := Lib.hid (HP.out.on hb)
  replace HB := Lib.hid (bel_end HB.out hb)
  rw [← hW]
  clear hW hb
  have bA_0 := bA.cell 0 rfl
  have bA_1 := bA.cell 1 rfl
  have bA_l := bA.lt
  have bD_0 := bD.cell 0 rfl
  have bD_1 := bD.cell 1 rfl
  have bD_2 := bD.cell 2 rfl
  have bD_l := bD.lt
  refine (KA.out _ _ _ _ _ HP.out.at_).mono ?_
  rintro e w3 ⟨rfl, hb⟩
  replace bA := bA.on hb
  replace bD := bD.on hb
  replace HP := Lib.hid (HP.out.on hb)
  replace HB := Lib.hid (bel_end HB.out hb)
  clear hb
  clear bA_0 bA_1 bA_l bD_0 bD_1 bD_2 bD_l
  have bA_0 := bA.cell 0 rfl
  have bA_1 := bA.cell 1 rfl
  have bA_l := bA.lt
  have bD_0 := bD.cell 0 rfl
  have bD_1 := bD.cell 1 rfl
  have bD_2 := bD.cell 2 rfl
  have bD_l := bD.lt
  go_wp2_with fail
  obtain ⟨W4, hW⟩ : ∃ W, W = (w3.alloc (.cells #[.int .i64 X, .int .i64 Y] 25)) := ⟨_, rfl⟩
  have hb : Below w3.heap.size w3 W4 := by rw [hW]; exact (by repeat (first | exact Below.refl _ _ | (refine Below.alloc ?_ (by simp <;> omega) _) | (refine Below.setCell ?_ (by simp <;> omega) _) | (refine Below.drew ?_) | (refine bel_drewN ?_ _)))
  have bX : Bk W4 (w3.heap.size) #[.int .i64 X, .int .i64 Y] 25 := by rw [hW]; exact (Bk.new' (by simp))
  replace bA := bA.on hb
  replace bD := bD.on hb
  replace HP := Lib.hid (HP.out.on hb)
  replace HB := Lib.hid (bel_end HB.out hb)
  rw [← hW]
  clear bA_0 bA_1 bA_l bD_0 bD_1 bD_2 bD_l
  clear hW hb
  have bA_0 := bA.cell 0 rfl
  have bA_1 := bA.cell 1 rfl
  have bA_l := bA.lt
  have bD_0 := bD.cell 0 rfl
  have bD_1 := bD.cell 1 rfl
  have bD_2 := bD.cell 2 rfl
  have bD_l := bD.lt
  have bX_0 := bX.cell 0 rfl
  have bX_1 := bX.cell 1 rfl
  have bX_l := bX.lt
  refine (KB.out _ _ _ _ _ HP.out.at_).mono ?_
  rintro e w5 ⟨rfl, hb⟩
  replace bA := bA.on hb
  replace bD := bD.on hb
  replace bX := bX.on hb
  replace HP := Lib.hid (HP.out.on hb)
  replace HB := Lib.hid (bel_end HB.out hb)
  clear hb
  clear bA_0 bA_1 bA_l bD_0 bD_1 bD_2 bD_l bX_0 bX_1 bX_l
  clear KA KB
  by_cases h1 : e1 = 0
  case neg =>
    have h1b : (e1 != 0) = true := by simpa using h1
    clear F1
    have bA_0 := bA.cell 0 rfl
    have bA_1 := bA.cell 1 rfl
    have bA_l := bA.lt
    have bD_0 := bD.cell 0 rfl
    have bD_1 := bD.cell 1 rfl
    have bD_2 := bD.cell 2 rfl
    have bD_l := bD.lt
    have bX_0 := bX.cell 0 rfl
    have bX_1 := bX.cell 1 rfl
    have bX_l := bX.lt
    go_wp2
    go_ret
    exact ⟨rfl, HB.out.alloc HB.out.size _⟩
  case pos =>
    obtain ⟨i, j, rfl, rfl, F⟩ := F1.out h1
    subst h1
    clear F1
    have F := Lib.hid F
    have lz := F.out.lz
    have li := F.out.li
    have lj := F.out.lj
    obtain ⟨p, o, p', o', rfl, rfl, hlp, hlq, a1, a2, a3, b1, b2, b3⟩ := six_at HP.out.at_ (k1 := j) (k2 := j + 1) (k3 := j) (l1 := i) (l2 := j) (l3 := j + 1) (by omega) lz (by omega) li (by omega) lj
    have hn1 := HP.out.n1
    have hn2 := HP.out.n2
    have u0 := F.out.u i
    have u1 := F.out.u j
    have u2 := F.out.u (j + 1)
    have z1 := F.out.z j
    have z2 := F.out.z (j + 1)
    have c1_ := F.out.c1
    have c2_ := F.out.c2
    have h1_ := F.out.h1
    have h2_ := F.out.h2
    have flo := F.out.lo
    have flo2 := F.out.lo2
    have fup := F.out.up
    have fup2 := F.out.up2
    have fw1 := F.out.w1
    have fw2 := F.out.w2
    have fn1 := F.out.n1
    have fn2 := F.out.n2
    have fxy := F.out.xy
    have fx := F.out.x1
    have fy := F.out.y1
    have eN : rdN zs ys i h j = h * ys.getD i 0 * (zs.getD (j + 1) 0 - zs.getD j 0) := rfl
    have eV : rdW ys c j = c * ((ys.getD (j + 1) 0 - ys.getD j 0).natAbs : Int) := rfl
    clear F
    obtain ⟨N, hN⟩ : ∃ q, rdN zs ys i h j = q := ⟨_, rfl⟩
    rw [hN] at eN flo fup fn1 fn2
    clear hN
    obtain ⟨V, hV⟩ : ∃ q, rdW ys c j = q := ⟨_, rfl⟩
    rw [hV] at eV flo flo2 fup fup2 fw1 fw2
    clear hV
    obtain ⟨dj, e⟩ : ∃ q, zs.getD j 0 = q := ⟨_, rfl⟩
    rw [e] at a1 a3 z1 eN
    clear e
    obtain ⟨dk, e⟩ : ∃ q, zs.getD (j + 1) 0 = q := ⟨_, rfl⟩
    rw [e] at a2 z2 eN
    clear e
    obtain ⟨ui, e⟩ : ∃ q, ys.getD i 0 = q := ⟨_, rfl⟩
    rw [e] at b1 u0 eN
    clear e
    obtain ⟨un, e⟩ : ∃ q, ys.getD j 0 = q := ⟨_, rfl⟩
    rw [e] at b2 u1 eV
    clear e
    obtain ⟨uf, e⟩ : ∃ q, ys.getD (j + 1) 0 = q := ⟨_, rfl⟩
    rw [e] at b3 u2 eV
    clear e
    have m1 := mul_in (a := h) (b := ui) (A := 1000) (B := 1700000) (by omega) (by omega) (by omega) (by omega)
    obtain ⟨A, eA⟩ : ∃ q, h * ui = q := ⟨_, rfl⟩
    rw [eA] at eN m1
    have wp1 : IntKind.wrap .i64 (h * ui) = A := by rw [eA]; exact IntWalk.i64_in _ (by omega)
    clear eA
    obtain ⟨Z, eZ⟩ : ∃ q, dk - dj = q := ⟨_, rfl⟩
    rw [eZ] at eN
    have wp2 : IntKind.wrap .i64 (dk - dj) = Z := by rw [eZ]; exact IntWalk.i64_in _ (by omega)
    clear eZ
    have wp3 : IntKind.wrap .i64 (A * Z) = N := by rw [← eN]; exact IntWalk.i64_in _ (by omega)
    obtain ⟨P, eP⟩ : ∃ q, un - uf = q := ⟨_, rfl⟩
    have wp4 : IntKind.wrap .i64 (un - uf) = P := by rw [eP]; exact IntWalk.i64_in _ (by omega)
    obtain ⟨Q, eQ⟩ : ∃ q, uf - un = q := ⟨_, rfl⟩
    rw [eQ] at eV
    have wp5 : IntKind.wrap .i64 (uf - un) = Q := by rw [eQ]; exact IntWalk.i64_in _ (by omega)
    obtain ⟨XV, eX⟩ : ∃ q, X * V = q := ⟨_, rfl⟩
    rw [eX] at flo flo2
    have wp6 : IntKind.wrap .i64 (X * V) = XV := by rw [eX]; exact IntWalk.i64_in _ (by omega)
    clear eX
    obtain ⟨YV, eY⟩ : ∃ q, Y * V = q := ⟨_, rfl⟩
    rw [eY] at fup fup2
    have wp7 : IntKind.wrap .i64 (Y * V) = YV := by rw [eY]; exact IntWalk.i64_in _ (by omega)
    clear eY
    have wp8 : IntKind.wrap .i64 (Y - X) = Y - X := IntWalk.i64_in _ (by omega)
    have i1 : (0 : Int) ≤ (j : Int) + 1 := by omega
    have i2 : ((j : Int) + 1).toNat = j + 1 := by omega
    have i3 : (j : Int) + 1 < (zs.length : Int) := by omega
    have i4 : (j : Int) < (zs.length : Int) := by omega
    have i6 : (j : Int) < (ys.length : Int) := by omega
    have i7 : (j : Int) + 1 < (ys.length : Int) := by omega
    have i8 : (i : Int) < (ys.length : Int) := by omega
    have ew : IntKind.wrap .i64 ((j : Int) + 1) = (j : Int) + 1 := IntWalk.i64_in _ (by omega)
    by_cases hPQ : P < Q
    · have wp9 : IntKind.wrap .i64 (c * Q) = V := by rw [eV, show (Q.natAbs : Int) = Q by omega]; exact IntWalk.i64_in _ (by rw [show Q = (Q.natAbs : Int) by omega, ← eV]; omega)
      clear eN eV eP eQ m1 u0 u1 u2 z1 z2 c1_ c2_ h1_ h2_ fw1 fw2 fn1 fn2 fx fy flo2 fup2 li lj lz hn1 hn2
      have bA_0 := bA.cell 0 rfl
      have bA_1 := bA.cell 1 rfl
      have bA_l := bA.lt
      have bD_0 := bD.cell 0 rfl
      have bD_1 := bD.cell 1 rfl
      have bD_2 := bD.cell 2 rfl
      have bD_l := bD.lt
      have bX_0 := bX.cell 0 rfl
      have bX_1 := bX.cell 1 rfl
      have bX_l := bX.lt
      go_upto_region 10 with fail
      clear bA_0 bA_1 bA_l bD_0 bD_1 bD_2 bD_l bX_0 bX_1 bX_l
      generalize hW : World.alloc _ _ = WY
      have hb : Below w5.heap.size w5 WY := by rw [← hW]; exact (by repeat (first | exact Below.refl _ _ | (refine Below.alloc ?_ (by simp <;> omega) _) | (refine Below.setCell ?_ (by simp <;> omega) _) | (refine Below.drew ?_) | (refine bel_drewN ?_ _)))
      clear hW
      replace bA := bA.on hb
      replace bD := bD.on hb
      replace bX := bX.on hb
      replace HP := Lib.hid (HP.out.on hb)
      replace a1 := kc1 a1 hb
      replace a2 := kc1 a2 hb
      replace a3 := kc1 a3 hb
      replace b1 := kc1 b1 hb
      replace b2 := kc1 b2 hb
      replace b3 := kc1 b3 hb
      replace HB := Lib.hid (bel_end HB.out hb)
      clear hb
      have bA_0 := bA.cell 0 rfl
      have bA_1 := bA.cell 1 rfl
      have bA_l := bA.lt
      have bD_0 := bD.cell 0 rfl
      have bD_1 := bD.cell 1 rfl
      have bD_2 := bD.cell 2 rfl
      have bD_l := bD.lt
      have bX_0 := bX.cell 0 rfl
      have bX_1 := bX.cell 1 rfl
      have bX_l := bX.lt
      go_quiet (fail)
      go_wp2_with fail
      clear bA_0 bA_1 bA_l bD_0 bD_1 bD_2 bD_l bX_0 bX_1 bX_l
      generalize hW : World.drewN _ _ = WQ
      have hb : Below WY.heap.size WY WQ := by rw [← hW]; exact bel_drewN (Below.refl _ _) _
      clear hW
      replace bA := bA.on hb
      replace bD := bD.on hb
      replace bX := bX.on hb
      replace HP := Lib.hid (HP.out.on hb)
      replace a1 := kc1 a1 hb
      replace a2 := kc1 a2 hb
      replace a3 := kc1 a3 hb
      replace b1 := kc1 b1 hb
      replace b2 := kc1 b2 hb
      replace b3 := kc1 b3 hb
      replace HB := Lib.hid (bel_end HB.out hb)
      clear hb
      have bA_0 := bA.cell 0 rfl
      have bA_1 := bA.cell 1 rfl
      have bA_l := bA.lt
      have bD_0 := bD.cell 0 rfl
      have bD_1 := bD.cell 1 rfl
      have bD_2 := bD.cell 2 rfl
      have bD_l := bD.lt
      have bX_0 := bX.cell 0 rfl
      have bX_1 := bX.cell 1 rfl
      have bX_l := bX.lt
      go_quiet (fail)
      go_wp2_with fail
      clear bA_0 bA_1 bA_l bD_0 bD_1 bD_2 bD_l bX_0 bX_1 bX_l
      generalize hW : World.drewN _ _ = WR
      have hb : Below WQ.heap.size WQ WR := by rw [← hW]; exact bel_drewN (Below.refl _ _) _
      clear hW
      replace bA := bA.on hb
      replace bD := bD.on hb
      replace bX := bX.on hb
      replace HP := Lib.hid (HP.out.on hb)
      replace a1 := kc1 a1 hb
      replace a2 := kc1 a2 hb
      replace a3 := kc1 a3 hb
      replace b1 := kc1 b1 hb
      replace b2 := kc1 b2 hb
      replace b3 := kc1 b3 hb
      replace HB := Lib.hid (bel_end HB.out hb)
      clear hb
      have bA_0 := bA.cell 0 rfl
      have bA_1 := bA.cell 1 rfl
      have bA_l := bA.lt
      have bD_0 := bD.cell 0 rfl
      have bD_1 := bD.cell 1 rfl
      have bD_2 := bD.cell 2 rfl
      have bD_l := bD.lt
      have bX_0 := bX.cell 0 rfl
      have bX_1 := bX.cell 1 rfl
      have bX_l := bX.lt
      go_wp2
      go_ret
      exact ⟨rfl, HB.out⟩
    · have wp9 : IntKind.wrap .i64 (c * P) = V := by rw [eV, show (Q.natAbs : Int) = P by omega]; exact IntWalk.i64_in _ (by rw [show P = (Q.natAbs : Int) by omega, ← eV]; omega)
      clear eN eV eP eQ m1 u0 u1 u2 z1 z2 c1_ c2_ h1_ h2_ fw1 fw2 fn1 fn2 fx fy flo2 fup2 li lj lz hn1 hn2
      have bA_0 := bA.cell 0 rfl
      have bA_1 := bA.cell 1 rfl
      have bA_l := bA.lt
      have bD_0 := bD.cell 0 rfl
      have bD_1 := bD.cell 1 rfl
      have bD_2 := bD.cell 2 rfl
      have bD_l := bD.lt
      have bX_0 := bX.cell 0 rfl
      have bX_1 := bX.cell 1 rfl
      have bX_l := bX.lt
      go_upto_region 10 with fail
      clear bA_0 bA_1 bA_l bD_0 bD_1 bD_2 bD_l bX_0 bX_1 bX_l
      generalize hW : World.alloc _ _ = WY
      have hb : Below w5.heap.size w5 WY := by rw [← hW]; exact (by repeat (first | exact Below.refl _ _ | (refine Below.alloc ?_ (by simp <;> omega) _) | (refine Below.setCell ?_ (by simp <;> omega) _) | (refine Below.drew ?_) | (refine bel_drewN ?_ _)))
      clear hW
      replace bA := bA.on hb
      replace bD := bD.on hb
      replace bX := bX.on hb
      replace HP := Lib.hid (HP.out.on hb)
      replace a1 := kc1 a1 hb
      replace a2 := kc1 a2 hb
      replace a3 := kc1 a3 hb
      replace b1 := kc1 b1 hb
      replace b2 := kc1 b2 hb
      replace b3 := kc1 b3 hb
      replace HB := Lib.hid (bel_end HB.out hb)
      clear hb
      have bA_0 := bA.cell 0 rfl
      have bA_1 := bA.cell 1 rfl
      have bA_l := bA.lt
      have bD_0 := bD.cell 0 rfl
      have bD_1 := bD.cell 1 rfl
      have bD_2 := bD.cell 2 rfl
      have bD_l := bD.lt
      have bX_0 := bX.cell 0 rfl
      have bX_1 := bX.cell 1 rfl
      have bX_l := bX.lt
      go_quiet (fail)
      go_wp2_with fail
      clear bA_0 bA_1 bA_l bD_0 bD_1 bD_2 bD_l bX_0 bX_1 bX_l
      generalize hW : World.drewN _ _ = WQ
      have hb : Below WY.heap.size WY WQ := by rw [← hW]; exact bel_drewN (Below.refl _ _) _
      clear hW
      replace bA := bA.on hb
      replace bD := bD.on hb
      replace bX := bX.on hb
      replace HP := Lib.hid (HP.out.on hb)
      replace a1 := kc1 a1 hb
      replace a2 := kc1 a2 hb
      replace a3 := kc1 a3 hb
      replace b1 := kc1 b1 hb
      replace b2 := kc1 b2 hb
      replace b3 := kc1 b3 hb
      replace HB := Lib.hid (bel_end HB.out hb)
      clear hb
      have bA_0 := bA.cell 0 rfl
      have bA_1 := bA.cell 1 rfl
      have bA_l := bA.lt
      have bD_0 := bD.cell 0 rfl
      have bD_1 := bD.cell 1 rfl
      have bD_2 := bD.cell 2 rfl
      have bD_l := bD.lt
      have bX_0 := bX.cell 0 rfl
      have bX_1 := bX.cell 1 rfl
      have bX_l := bX.lt
      go_quiet (fail)
      go_wp2_with fail
      clear bA_0 bA_1 bA_l bD_0 bD_1 bD_2 bD_l bX_0 bX_1 bX_l
      generalize hW : World.drewN _ _ = WR
      have hb : Below WQ.heap.size WQ WR := by rw [← hW]; exact bel_drewN (Below.refl _ _) _
      clear hW
      replace bA := bA.on hb
      replace bD := bD.on hb
      replace bX := bX.on hb
      replace HP := Lib.hid (HP.out.on hb)
      replace a1 := kc1 a1 hb
      replace a2 := kc1 a2 hb
      replace a3 := kc1 a3 hb
      replace b1 := kc1 b1 hb
      replace b2 := kc1 b2 hb
      replace b3 := kc1 b3 hb
      replace HB := Lib.hid (bel_end HB.out hb)
      clear hb
      have bA_0 := bA.cell 0 rfl
      have bA_1 := bA.cell 1 rfl
      have bA_l := bA.lt
      have bD_0 := bD.cell 0 rfl
      have bD_1 := bD.cell 1 rfl
      have bD_2 := bD.cell 2 rfl
      have bD_l := bD.lt
      have bX_0 := bX.cell 0 rfl
      have bX_1 := bX.cell 1 rfl
      have bX_l := bX.lt
      go_wp2
      go_ret
      exact ⟨rfl, HB.out⟩
end Go.Proofs.Ytfcbagjjpclplaa
