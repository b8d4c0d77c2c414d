/- The walk of the law of profiles' texts and cuts. -/
import Derived.Test.YtcaekheghjnipabDoorPfD
import Derived.Deep.RegionHeld3
import Derived.Deep.DeepCutAuto
namespace Go.Proofs.YtcaekheghjnipabDoor
open Go.ChangeShapes Go.WideShapes Go.ChangeAt Go.RowKit Go.Shelf Num
set_option linter.unusedVariables false
attribute [local go_sem ↓] Go.wp_at_zero Go.wp_at_succ
theorem getD_take {zs : List Int} {n j : Nat} (h : j < n) : (zs.take n).getD j 0 = zs.getD j 0 := by
  rw [List.getD_eq_getElem?_getD, List.getD_eq_getElem?_getD, List.getElem?_take, if_pos h]
theorem prf_take {zs ys : List Int} {n : Nat} (h : prfB zs ys = true) (h2 : 2 ≤ n) (hn : n ≤ zs.length) : prfB (zs.take n) (ys.take n) = true := by
  have O := Okp.of h
  have l2 := O.len
  obtain ⟨-, n12, -, h4, h5, h6⟩ := prfB_p h
  have l3 : (zs.take n).length = n := by simp; omega
  have l4 : (ys.take n).length = n := by simp; omega
  refine prfB_t ⟨by omega, by omega, by omega, risB_t (fun i hi => ?_), by rw [getD_take (by omega)]; exact h5, anyLack_f (fun k hk => ?_)⟩
  · rw [l3] at hi
    unfold risP
    rw [getD_take hi]
    have a1 := O.lo i
    have a2 := O.hi i
    refine ⟨a1, by omega, fun hp => ?_⟩
    rw [getD_take (by omega)]
    have := O.step (i - 1) (by omega)
    rwa [show i - 1 + 1 = i by omega] at this
  · rw [l4] at hk
    rw [getD_take hk]
    have a1 := O.slo k (by omega)
    have a2 := O.shi k
    unfold hasB
    simp only [Bool.and_eq_true, decide_eq_true_eq]
    omega
theorem cu_fact {zs ys M N : List Int} {x q : Int} (hq : cuC zs ys x = q) (h1 : cuL q x zs = M) (h2 : cuL q x ys = N) (h0 : q = 0) :
    ∃ K : Nat, x = (K : Int) ∧ K + 1 ≤ zs.length ∧ M = zs.take (K + 1) ∧ prfB M N = true := by
  subst h0
  obtain ⟨hv, hh, hx⟩ := cuC_0 hq
  have hk := hkB_t hh
  obtain ⟨K, rfl⟩ : ∃ K : Nat, x = (K : Int) := ⟨x.toNat, by omega⟩
  unfold cuL at h1 h2
  rw [if_pos rfl, Int.toNat_natCast] at h1 h2
  subst h1 h2
  exact ⟨K, rfl, by omega, rfl, prf_take hv (by omega) (by omega)⟩

set_option maxRecDepth 100000 in
set_option maxHeartbeats 16000000 in
theorem lpfs (a0 : Option Addr) (len0 cap0 : Nat) (z0 : List Int) (w : World) (w0 : IsRow .u8 w a0 len0 cap0 z0) (ht : Pow10 w) (h1 : ∃ tp p, w.var? Tryd.prog "strconv.ErrSyntax" = some #[.iface tp p]) (h2 : ∃ tp p, w.var? Tryd.prog "strconv.ErrRange" = some #[.iface tp p]) (hm : MaxCell w) :
    Calls Tryd.prog 4 #[.slice a0 len0 cap0] w fun e w' => e = .returned (.bool true) ∧ Below w.heap.size w w' := by
  have HT := Lib.hid ht
  have HE := Lib.hid (errs_of h1 h2)
  have HM := Lib.hid hm
  clear ht h1 h2 hm
  obtain ⟨hln, hc⟩ := Code8.of_row w0
  clear w0
  obtain ⟨cs, hcs⟩ : ∃ cs, z0.take len0 = cs := ⟨_, rfl⟩
  rw [hcs] at hln hc
  subst hln
  clear hcs
  have HC := Lib.hid hc
  clear hc
  by_cases hbig : 4096 < (cs.length : Int)
  · have HB0 : Hid (decide (4096 < (cs.length : Int)) = true) := Lib.hid (decide_eq_true hbig)
    clear hbig
    go_enter Tryd.func4, Tryd.ntmps4
    go_wp2_with fail
    refine (big_any _ _ _ _).mono ?_
    rw [HB0.out]
    rintro e w1 ⟨rfl, rfl⟩
    go_wp2
    go_ret
    exact ⟨rfl, Below.refl _ _⟩
  have HB0 : Hid (decide (4096 < (cs.length : Int)) = false) := Lib.hid (decide_eq_false hbig)
  clear hbig
  go_enter Tryd.func4, Tryd.ntmps4
  go_wp2_with fail
  refine (big_any _ _ _ _).mono ?_
  rw [HB0.out]
  rintro e w1 ⟨rfl, hw1⟩
  subst hw1
  go_wp2_with fail
  refine (dpf_any _ _ _ cs HC.out).mono ?_
  rintro e w1 ⟨a1, b1, c1, d1, zs, ys, rfl, hp, hb⟩
  have HB := Lib.hid hb
  have HP := Lib.hid hp
  clear hp
  obtain ⟨T, hT⟩ : ∃ T, pfT zs ys = T := ⟨_, rfl⟩
  have hsz : T.size ≤ 1000 := by rw [← hT]; exact pfT_small
  have HTT := Lib.hid hT
  clear hT
  clear hb
  go_wp2_with fail
  obtain ⟨W2, hW⟩ : ∃ W, W = (w1.alloc (.cells #[.slice a1 zs.length c1, .slice b1 ys.length d1] 24)) := ⟨_, rfl⟩
  have hb : Below w1.heap.size w1 W2 := by rw [hW]; exact (by repeat (first | exact Below.refl _ _ | (refine Below.alloc ?_ (by simp <;> omega) _) | (refine Below.setCell ?_ (by simp <;> omega) _) | (refine Below.drew ?_) | (refine bel_drewN ?_ _)))
  have bA : Bk W2 (w1.heap.size) #[.slice a1 zs.length c1, .slice b1 ys.length d1] 24 := by rw [hW]; exact (Bk.new' (by simp))
  replace HP := Lib.hid (HP.out.on hb)
  replace HB := Lib.hid (bel_end HB.out hb)
  rw [← hW]
  clear hW hb
  have bA_0 := bA.cell 0 rfl
  have bA_1 := bA.cell 1 rfl
  have bA_l := bA.lt
  refine (itp_any _ _ _ _ _ zs ys HP.out.at_ (HT.out.later HB.out)).mono ?_
  rintro e w3 ⟨rfl, hb⟩
  replace bA := bA.on hb
  replace HP := Lib.hid (HP.out.on hb)
  replace HB := Lib.hid (bel_end HB.out hb)
  rw [HTT.out]
  clear hb
  clear bA_0 bA_1 bA_l
  have bA_0 := bA.cell 0 rfl
  have bA_1 := bA.cell 1 rfl
  have bA_l := bA.lt
  go_wp2_with fail
  refine (irp_any T _ (by omega) (HT.out.later HB.out) (HE.out.later HB.out) (HM.out.later HB.out)).mono ?_
  rintro e w4 ⟨xa, xb, xc, xd, us, vs, ok, rfl, hr, ho, hb⟩
  replace bA := bA.on hb
  replace HP := Lib.hid (HP.out.on hb)
  replace HB := Lib.hid (bel_end HB.out hb)
  have FX := Lib.hid (rpf_text (zs := zs) (ys := ys) (by rw [HTT.out]; exact hr))
  have lx1 := hr.len.1
  have lx2 := hr.len.2
  have HX := Lib.hid (ProfL.of (ho.prof (by omega) (by omega)))
  clear hr ho lx1 lx2
  have HOK := Lib.hid FX.out.1.symm
  clear hb
  clear bA_0 bA_1 bA_l
  have bA_0 := bA.cell 0 rfl
  have bA_1 := bA.cell 1 rfl
  have bA_l := bA.lt
  go_wp2_with fail
  obtain ⟨W5, hW⟩ : ∃ W, W = (w4.alloc (.cells #[.slice xa us.length xc, .slice xb vs.length xd] 24)) := ⟨_, rfl⟩
  have hb : Below w4.heap.size w4 W5 := by rw [hW]; exact (by repeat (first | exact Below.refl _ _ | (refine Below.alloc ?_ (by simp <;> omega) _) | (refine Below.setCell ?_ (by simp <;> omega) _) | (refine Below.drew ?_) | (refine bel_drewN ?_ _)))
  have bX : Bk W5 (w4.heap.size) #[.slice xa us.length xc, .slice xb vs.length xd] 24 := by rw [hW]; exact (Bk.new' (by simp))
  replace bA := bA.on hb
  replace HP := Lib.hid (HP.out.on hb)
  replace HX := Lib.hid (HX.out.on hb)
  replace HB := Lib.hid (bel_end HB.out hb)
  rw [← hW]
  clear bA_0 bA_1 bA_l
  clear hW hb
  have bA_0 := bA.cell 0 rfl
  have bA_1 := bA.cell 1 rfl
  have bA_l := bA.lt
  have bX_0 := bX.cell 0 rfl
  have bX_1 := bX.cell 1 rfl
  have bX_l := bX.lt
  refine (drp_any _ _ _ cs ((HC.out.below HB.out (Nat.le_refl _)).more HB.out.size)).mono ?_
  rintro e w6 ⟨s, rfl, hs, hb⟩
  replace bA := bA.on hb
  replace bX := bX.on hb
  replace HP := Lib.hid (HP.out.on hb)
  replace HX := Lib.hid (HX.out.on hb)
  replace HB := Lib.hid (bel_end HB.out hb)
  clear hb
  clear bA_0 bA_1 bA_l bX_0 bX_1 bX_l
  have bA_0 := bA.cell 0 rfl
  have bA_1 := bA.cell 1 rfl
  have bA_l := bA.lt
  have bX_0 := bX.cell 0 rfl
  have bX_1 := bX.cell 1 rfl
  have bX_l := bX.lt
  go_wp2_with fail
  refine (irp_any s _ (by omega) (HT.out.later HB.out) (HE.out.later HB.out) (HM.out.later HB.out)).mono ?_
  rintro e w7 ⟨ya, yb, yc, yd, rs, ts, one, rfl, hr, ho, hb⟩
  replace bA := bA.on hb
  replace bX := bX.on hb
  replace HP := Lib.hid (HP.out.on hb)
  replace HX := Lib.hid (HX.out.on hb)
  replace HB := Lib.hid (bel_end HB.out hb)
  have HRY := Lib.hid hr
  have lx1 := hr.len.1
  have lx2 := hr.len.2
  have HY := Lib.hid (ProfL.of (ho.prof (by omega) (by omega)))
  clear hr ho lx1 lx2
  clear hb
  clear bA_0 bA_1 bA_l bX_0 bX_1 bX_l
  have bA_0 := bA.cell 0 rfl
  have bA_1 := bA.cell 1 rfl
  have bA_l := bA.lt
  have bX_0 := bX.cell 0 rfl
  have bX_1 := bX.cell 1 rfl
  have bX_l := bX.lt
  go_wp2_with fail
  obtain ⟨W8, hW⟩ : ∃ W, W = (w7.alloc (.cells #[.slice ya rs.length yc, .slice yb ts.length yd] 24)) := ⟨_, rfl⟩
  have hb : Below w7.heap.size w7 W8 := by rw [hW]; exact (by repeat (first | exact Below.refl _ _ | (refine Below.alloc ?_ (by simp <;> omega) _) | (refine Below.setCell ?_ (by simp <;> omega) _) | (refine Below.drew ?_) | (refine bel_drewN ?_ _)))
  have bY : Bk W8 (w7.heap.size) #[.slice ya rs.length yc, .slice yb ts.length yd] 24 := by rw [hW]; exact (Bk.new' (by simp))
  replace bA := bA.on hb
  replace bX := bX.on hb
  replace HP := Lib.hid (HP.out.on hb)
  replace HX := Lib.hid (HX.out.on hb)
  replace HY := Lib.hid (HY.out.on hb)
  replace HB := Lib.hid (bel_end HB.out hb)
  rw [← hW]
  clear bA_0 bA_1 bA_l bX_0 bX_1 bX_l
  clear hW hb
  have bA_0 := bA.cell 0 rfl
  have bA_1 := bA.cell 1 rfl
  have bA_l := bA.lt
  have bX_0 := bX.cell 0 rfl
  have bX_1 := bX.cell 1 rfl
  have bX_l := bX.lt
  have bY_0 := bY.cell 0 rfl
  have bY_1 := bY.cell 1 rfl
  have bY_l := bY.lt
  refine (srp_any s _ (by omega)).mono ?_
  rintro e w9 ⟨za, zb, zc, zd, rs2, ts2, two, rfl, hr, ho, hb⟩
  replace bA := bA.on hb
  replace bX := bX.on hb
  replace bY := bY.on hb
  replace HP := Lib.hid (HP.out.on hb)
  replace HX := Lib.hid (HX.out.on hb)
  replace HY := Lib.hid (HY.out.on hb)
  replace HB := Lib.hid (bel_end HB.out hb)
  obtain ⟨⟨e1, e2⟩, e3⟩ := RPf.unique HRY.out hr
  subst e1 e2 e3
  have lx1 := hr.len.1
  have lx2 := hr.len.2
  have HZ := Lib.hid (ProfL.of (ho.prof (by omega) (by omega)))
  clear hr ho lx1 lx2 HRY
  clear hb
  clear bA_0 bA_1 bA_l bX_0 bX_1 bX_l bY_0 bY_1 bY_l
  have bA_0 := bA.cell 0 rfl
  have bA_1 := bA.cell 1 rfl
  have bA_l := bA.lt
  have bX_0 := bX.cell 0 rfl
  have bX_1 := bX.cell 1 rfl
  have bX_l := bX.lt
  have bY_0 := bY.cell 0 rfl
  have bY_1 := bY.cell 1 rfl
  have bY_l := bY.lt
  go_wp2_with fail
  obtain ⟨W10, hW⟩ : ∃ W, W = (w9.alloc (.cells #[.slice za rs.length zc, .slice zb ts.length zd] 24)) := ⟨_, rfl⟩
  have hb : Below w9.heap.size w9 W10 := by rw [hW]; exact (by repeat (first | exact Below.refl _ _ | (refine Below.alloc ?_ (by simp <;> omega) _) | (refine Below.setCell ?_ (by simp <;> omega) _) | (refine Below.drew ?_) | (refine bel_drewN ?_ _)))
  have bZ : Bk W10 (w9.heap.size) #[.slice za rs.length zc, .slice zb ts.length zd] 24 := by rw [hW]; exact (Bk.new' (by simp))
  replace bA := bA.on hb
  replace bX := bX.on hb
  replace bY := bY.on hb
  replace HP := Lib.hid (HP.out.on hb)
  replace HX := Lib.hid (HX.out.on hb)
  replace HY := Lib.hid (HY.out.on hb)
  replace HZ := Lib.hid (HZ.out.on hb)
  replace HB := Lib.hid (bel_end HB.out hb)
  rw [← hW]
  clear bA_0 bA_1 bA_l bX_0 bX_1 bX_l bY_0 bY_1 bY_l
  clear hW hb
  have bA_0 := bA.cell 0 rfl
  have bA_1 := bA.cell 1 rfl
  have bA_l := bA.lt
  have bX_0 := bX.cell 0 rfl
  have bX_1 := bX.cell 1 rfl
  have bX_l := bX.lt
  have bY_0 := bY.cell 0 rfl
  have bY_1 := bY.cell 1 rfl
  have bY_l := bY.lt
  have bZ_0 := bZ.cell 0 rfl
  have bZ_1 := bZ.cell 1 rfl
  have bZ_l := bZ.lt
  refine (dcp_any _ _ _ cs ((HC.out.below HB.out (Nat.le_refl _)).more HB.out.size)).mono ?_
  rintro e w11 ⟨a2, b2, c2, d2, zs2, ys2, x, rfl, hp, hc1, hc2, hb⟩
  replace bA := bA.on hb
  replace bX := bX.on hb
  replace bY := bY.on hb
  replace bZ := bZ.on hb
  replace HP := Lib.hid (HP.out.on hb)
  replace HX := Lib.hid (HX.out.on hb)
  replace HY := Lib.hid (HY.out.on hb)
  replace HZ := Lib.hid (HZ.out.on hb)
  replace HB := Lib.hid (bel_end HB.out hb)
  have HQ := Lib.hid hp
  have HC1 := Lib.hid hc1
  have HC2 := Lib.hid hc2
  clear hp hc1 hc2
  obtain ⟨q, hq⟩ : ∃ q, cuC zs2 ys2 x = q := ⟨_, rfl⟩
  obtain ⟨M, hM⟩ : ∃ M, cuL q x zs2 = M := ⟨_, rfl⟩
  obtain ⟨N, hN⟩ : ∃ M, cuL q x ys2 = M := ⟨_, rfl⟩
  have KC : Hid (∀ (w : World) (a b : Option Addr) (c d : Nat), Prof w w.heap.size a b zs2 ys2 → Calls Tryd.prog 15 #[.agg #[.slice a zs2.length c, .slice b ys2.length d], .int .i64 x] w fun e w' => ∃ a' b' c' d', e = .returned (.tuple #[.agg #[.slice a' M.length c', .slice b' N.length d'], .int .i64 q]) ∧ ProfL w' w'.heap.size a' b' M N ∧ Below w.heap.size w w') := Lib.hid (fun w a b c d hp => (icu_any w a b c d zs2 ys2 x q hp hq).mono fun e w' h => by obtain ⟨a', b', c', d', rfl, ho, hb⟩ := h; rw [hM, hN] at ho ⊢; exact ⟨_, _, _, _, rfl, ProfL.of ho.prof, hb⟩)
  have KD : Hid (∀ (w : World) (a b : Option Addr) (c d : Nat), Prof w w.heap.size a b zs2 ys2 → zs2.length ≤ c → ys2.length ≤ d → Calls Tryd.prog 16 #[.agg #[.slice a zs2.length c, .slice b ys2.length d], .int .i64 x] w fun e w' => ∃ a' b' c' d', e = .returned (.tuple #[.agg #[.slice a' M.length c', .slice b' N.length d'], .int .i64 q]) ∧ ProfL w' w'.heap.size a' b' M N ∧ Below w.heap.size w w') := Lib.hid (fun w a b c d hp h1 h2 => (scu_any w a b c d zs2 ys2 x q hp h1 h2 hq).mono fun e w' h => by obtain ⟨a', b', c', d', rfl, ho, hb⟩ := h; rw [hM, hN] at ho ⊢; exact ⟨_, _, _, _, rfl, ProfL.of ho, hb⟩)
  have FC := Lib.hid (cu_fact hq hM hN)
  clear hq hM hN
  clear hb
  clear bA_0 bA_1 bA_l bX_0 bX_1 bX_l bY_0 bY_1 bY_l bZ_0 bZ_1 bZ_l
  have bA_0 := bA.cell 0 rfl
  have bA_1 := bA.cell 1 rfl
  have bA_l := bA.lt
  have bX_0 := bX.cell 0 rfl
  have bX_1 := bX.cell 1 rfl
  have bX_l := bX.lt
  have bY_0 := bY.cell 0 rfl
  have bY_1 := bY.cell 1 rfl
  have bY_l := bY.lt
  have bZ_0 := bZ.cell 0 rfl
  have bZ_1 := bZ.cell 1 rfl
  have bZ_l := bZ.lt
  go_wp2_with fail
  obtain ⟨W12, hW⟩ : ∃ W, W = (w11.alloc (.cells #[.slice a2 zs2.length c2, .slice b2 ys2.length d2] 24)) := ⟨_, rfl⟩
  have hb : Below w11.heap.size w11 W12 := by rw [hW]; exact (by repeat (first | exact Below.refl _ _ | (refine Below.alloc ?_ (by simp <;> omega) _) | (refine Below.setCell ?_ (by simp <;> omega) _) | (refine Below.drew ?_) | (refine bel_drewN ?_ _)))
  have bQ : Bk W12 (w11.heap.size) #[.slice a2 zs2.length c2, .slice b2 ys2.length d2] 24 := by rw [hW]; exact (Bk.new' (by simp))
  replace bA := bA.on hb
  replace bX := bX.on hb
  replace bY := bY.on hb
  replace bZ := bZ.on hb
  replace HP := Lib.hid (HP.out.on hb)
  replace HX := Lib.hid (HX.out.on hb)
  replace HY := Lib.hid (HY.out.on hb)
  replace HZ := Lib.hid (HZ.out.on hb)
  replace HQ := Lib.hid (HQ.out.on hb)
  replace HB := Lib.hid (bel_end HB.out hb)
  rw [← hW]
  clear bA_0 bA_1 bA_l bX_0 bX_1 bX_l bY_0 bY_1 bY_l bZ_0 bZ_1 bZ_l
  clear hW hb
  have bA_0 := bA.cell 0 rfl
  have bA_1 := bA.cell 1 rfl
  have bA_l := bA.lt
  have bX_0 := bX.cell 0 rfl
  have bX_1 := bX.cell 1 rfl
  have bX_l := bX.lt
  have bY_0 := bY.cell 0 rfl
  have bY_1 := bY.cell 1 rfl
  have bY_l := bY.lt
  have bZ_0 := bZ.cell 0 rfl
  have bZ_1 := bZ.cell 1 rfl
  have bZ_l := bZ.lt
  have bQ_0 := bQ.cell 0 rfl
  have bQ_1 := bQ.cell 1 rfl
  have bQ_l := bQ.lt
  refine (KC.out _ _ _ _ _ HQ.out.at_).mono ?_
  rintro e w13 ⟨ca, cb, cc, cd, rfl, ho, hb⟩
  replace bA := bA.on hb
  replace bX := bX.on hb
  replace bY := bY.on hb
  replace bZ := bZ.on hb
  replace bQ := bQ.on hb
  replace HP := Lib.hid (HP.out.on hb)
  replace HX := Lib.hid (HX.out.on hb)
  replace HY := Lib.hid (HY.out.on hb)
  replace HZ := Lib.hid (HZ.out.on hb)
  replace HQ := Lib.hid (HQ.out.on hb)
  replace HB := Lib.hid (bel_end HB.out hb)
  have HCC := Lib.hid ho
  clear ho
  clear hb
  clear bA_0 bA_1 bA_l bX_0 bX_1 bX_l bY_0 bY_1 bY_l bZ_0 bZ_1 bZ_l bQ_0 bQ_1 bQ_l
  have bA_0 := bA.cell 0 rfl
  have bA_1 := bA.cell 1 rfl
  have bA_l := bA.lt
  have bX_0 := bX.cell 0 rfl
  have bX_1 := bX.cell 1 rfl
  have bX_l := bX.lt
  have bY_0 := bY.cell 0 rfl
  have bY_1 := bY.cell 1 rfl
  have bY_l := bY.lt
  have bZ_0 := bZ.cell 0 rfl
  have bZ_1 := bZ.cell 1 rfl
  have bZ_l := bZ.lt
  have bQ_0 := bQ.cell 0 rfl
  have bQ_1 := bQ.cell 1 rfl
  have bQ_l := bQ.lt
  go_wp2_with fail
  obtain ⟨W14, hW⟩ : ∃ W, W = (w13.alloc (.cells #[.slice ca M.length cc, .slice cb N.length cd] 24)) := ⟨_, rfl⟩
  have hb : Below w13.heap.size w13 W14 := by rw [hW]; exact (by repeat (first | exact Below.refl _ _ | (refine Below.alloc ?_ (by simp <;> omega) _) | (refine Below.setCell ?_ (by simp <;> omega) _) | (refine Below.drew ?_) | (refine bel_drewN ?_ _)))
  have bC : Bk W14 (w13.heap.size) #[.slice ca M.length cc, .slice cb N.length cd] 24 := by rw [hW]; exact (Bk.new' (by simp))
  replace bA := bA.on hb
  replace bX := bX.on hb
  replace bY := bY.on hb
  replace bZ := bZ.on hb
  replace bQ := bQ.on hb
  replace HP := Lib.hid (HP.out.on hb)
  replace HX := Lib.hid (HX.out.on hb)
  replace HY := Lib.hid (HY.out.on hb)
  replace HZ := Lib.hid (HZ.out.on hb)
  replace HQ := Lib.hid (HQ.out.on hb)
  replace HCC := Lib.hid (HCC.out.on hb)
  replace HB := Lib.hid (bel_end HB.out hb)
  rw [← hW]
  clear bA_0 bA_1 bA_l bX_0 bX_1 bX_l bY_0 bY_1 bY_l bZ_0 bZ_1 bZ_l bQ_0 bQ_1 bQ_l
  clear hW hb
  have bA_0 := bA.cell 0 rfl
  have bA_1 := bA.cell 1 rfl
  have bA_l := bA.lt
  have bX_0 := bX.cell 0 rfl
  have bX_1 := bX.cell 1 rfl
  have bX_l := bX.lt
  have bY_0 := bY.cell 0 rfl
  have bY_1 := bY.cell 1 rfl
  have bY_l := bY.lt
  have bZ_0 := bZ.cell 0 rfl
  have bZ_1 := bZ.cell 1 rfl
  have bZ_l := bZ.lt
  have bQ_0 := bQ.cell 0 rfl
  have bQ_1 := bQ.cell 1 rfl
  have bQ_l := bQ.lt
  have bC_0 := bC.cell 0 rfl
  have bC_1 := bC.cell 1 rfl
  have bC_l := bC.lt
  refine (KD.out _ _ _ _ _ HQ.out.at_ HC1.out HC2.out).mono ?_
  rintro e w15 ⟨ma, mb, mc, md, rfl, ho, hb⟩
  replace bA := bA.on hb
  replace bX := bX.on hb
  replace bY := bY.on hb
  replace bZ := bZ.on hb
  replace bQ := bQ.on hb
  replace bC := bC.on hb
  replace HP := Lib.hid (HP.out.on hb)
  replace HX := Lib.hid (HX.out.on hb)
  replace HY := Lib.hid (HY.out.on hb)
  replace HZ := Lib.hid (HZ.out.on hb)
  replace HQ := Lib.hid (HQ.out.on hb)
  replace HCC := Lib.hid (HCC.out.on hb)
  replace HB := Lib.hid (bel_end HB.out hb)
  have HMM := Lib.hid ho
  clear ho KC KD
  clear hb
  clear bA_0 bA_1 bA_l bX_0 bX_1 bX_l bY_0 bY_1 bY_l bZ_0 bZ_1 bZ_l bQ_0 bQ_1 bQ_l bC_0 bC_1 bC_l
  have bA_0 := bA.cell 0 rfl
  have bA_1 := bA.cell 1 rfl
  have bA_l := bA.lt
  have bX_0 := bX.cell 0 rfl
  have bX_1 := bX.cell 1 rfl
  have bX_l := bX.lt
  have bY_0 := bY.cell 0 rfl
  have bY_1 := bY.cell 1 rfl
  have bY_l := bY.lt
  have bZ_0 := bZ.cell 0 rfl
  have bZ_1 := bZ.cell 1 rfl
  have bZ_l := bZ.lt
  have bQ_0 := bQ.cell 0 rfl
  have bQ_1 := bQ.cell 1 rfl
  have bQ_l := bQ.lt
  have bC_0 := bC.cell 0 rfl
  have bC_1 := bC.cell 1 rfl
  have bC_l := bC.lt
  go_wp2_with fail
  obtain ⟨W16, hW⟩ : ∃ W, W = (w15.alloc (.cells #[.slice ma M.length mc, .slice mb N.length md] 24)) := ⟨_, rfl⟩
  have hb : Below w15.heap.size w15 W16 := by rw [hW]; exact (by repeat (first | exact Below.refl _ _ | (refine Below.alloc ?_ (by simp <;> omega) _) | (refine Below.setCell ?_ (by simp <;> omega) _) | (refine Below.drew ?_) | (refine bel_drewN ?_ _)))
  have bM : Bk W16 (w15.heap.size) #[.slice ma M.length mc, .slice mb N.length md] 24 := by rw [hW]; exact (Bk.new' (by simp))
  replace bA := bA.on hb
  replace bX := bX.on hb
  replace bY := bY.on hb
  replace bZ := bZ.on hb
  replace bQ := bQ.on hb
  replace bC := bC.on hb
  replace HP := Lib.hid (HP.out.on hb)
  replace HX := Lib.hid (HX.out.on hb)
  replace HY := Lib.hid (HY.out.on hb)
  replace HZ := Lib.hid (HZ.out.on hb)
  replace HQ := Lib.hid (HQ.out.on hb)
  replace HCC := Lib.hid (HCC.out.on hb)
  replace HMM := Lib.hid (HMM.out.on hb)
  replace HB := Lib.hid (bel_end HB.out hb)
  rw [← hW]
  clear bA_0 bA_1 bA_l bX_0 bX_1 bX_l bY_0 bY_1 bY_l bZ_0 bZ_1 bZ_l bQ_0 bQ_1 bQ_l bC_0 bC_1 bC_l
  clear hW hb
  have KS : Hid (∀ w' : World, Below W16.heap.size W16 w' → Calls Tryd.prog 17 #[.agg #[.slice a1 zs.length c1, .slice b1 ys.length d1]] w' fun e w'' => e = .returned (.string T) ∧ Below w'.heap.size w' w'') := Lib.hid (fun w' hb => by have := stp_any w' a1 b1 c1 d1 zs ys (HP.out.at_.on hb); rw [HTT.out] at this; exact this)
  have KI : Hid (∀ w' : World, Below W16.heap.size W16 w' → Calls Tryd.prog 18 #[.agg #[.slice a1 zs.length c1, .slice b1 ys.length d1]] w' fun e w'' => e = .returned (.bool ok) ∧ Below w'.heap.size w' w'') := Lib.hid (fun w' hb => by have := ipr_any w' a1 b1 c1 d1 zs ys (HP.out.at_.on hb); rwa [HOK.out] at this)
  have KJ : Hid (∀ w' : World, Below W16.heap.size W16 w' → Calls Tryd.prog 19 #[.agg #[.slice a1 zs.length c1, .slice b1 ys.length d1]] w' fun e w'' => e = .returned (.bool ok) ∧ Below w'.heap.size w' w'') := Lib.hid (fun w' hb => by have := spr_any w' a1 b1 c1 d1 zs ys (HP.out.at_.on hb); rwa [HOK.out] at this)
  have KY : Hid (∀ w' : World, Below W16.heap.size W16 w' → Calls Tryd.prog 20 #[.agg #[.slice ya rs.length yc, .slice yb ts.length yd], .agg #[.slice za rs.length zc, .slice zb ts.length zd]] w' fun e w'' => e = .returned (.bool true) ∧ Below w'.heap.size w' w'') := Lib.hid (fun w' hb => lkp_any w' _ _ _ _ _ _ _ _ rs ts (HY.out.prof.on hb) (HZ.out.prof.on hb))
  have KM : Hid (∀ w' : World, Below W16.heap.size W16 w' → Calls Tryd.prog 20 #[.agg #[.slice ca M.length cc, .slice cb N.length cd], .agg #[.slice ma M.length mc, .slice mb N.length md]] w' fun e w'' => e = .returned (.bool true) ∧ Below w'.heap.size w' w'') := Lib.hid (fun w' hb => lkp_any w' _ _ _ _ _ _ _ _ M N (HCC.out.prof.on hb) (HMM.out.prof.on hb))
  cases ok
  · clear FX HOK HTT
    go_upto_region 12 with fail
    go_cut [105] (fun s wx => s = .bool false ∧ Below W16.heap.size W16 wx)
    case first =>
      have at15 : ∀ (w' : World), Below W16.heap.size W16 w' → w'.cell? ⟨w1.heap.size, 0, none⟩ = some (.slice a1 zs.length c1) ∧ w'.cell? ⟨w1.heap.size, 1, none⟩ = some (.slice b1 ys.length d1) ∧ w'.cell? ⟨w7.heap.size, 0, none⟩ = some (.slice ya rs.length yc) ∧ w'.cell? ⟨w7.heap.size, 1, none⟩ = some (.slice yb ts.length yd) ∧ w'.cell? ⟨w9.heap.size, 0, none⟩ = some (.slice za rs.length zc) ∧ w'.cell? ⟨w9.heap.size, 1, none⟩ = some (.slice zb ts.length zd) ∧ w'.cell? ⟨w13.heap.size, 0, none⟩ = some (.slice ca M.length cc) ∧ w'.cell? ⟨w13.heap.size, 1, none⟩ = some (.slice cb N.length cd) ∧ w'.cell? ⟨w15.heap.size, 0, none⟩ = some (.slice ma M.length mc) ∧ w'.cell? ⟨w15.heap.size, 1, none⟩ = some (.slice mb N.length md) ∧ Below W16.heap.size W16 w' := fun _ H => ⟨(bA.on H).cell 0 rfl, (bA.on H).cell 1 rfl, (bY.on H).cell 0 rfl, (bY.on H).cell 1 rfl, (bZ.on H).cell 0 rfl, (bZ.on H).cell 1 rfl, (bC.on H).cell 0 rfl, (bC.on H).cell 1 rfl, (bM.on H).cell 0 rfl, (bM.on H).cell 1 rfl, H⟩
      have AT := Lib.hid at15
      clear at15
      refine wp_region_held_drew (S := (fun w' => w'.cell? ⟨w1.heap.size, 0, none⟩ = some (.slice a1 zs.length c1) ∧ w'.cell? ⟨w1.heap.size, 1, none⟩ = some (.slice b1 ys.length d1) ∧ w'.cell? ⟨w7.heap.size, 0, none⟩ = some (.slice ya rs.length yc) ∧ w'.cell? ⟨w7.heap.size, 1, none⟩ = some (.slice yb ts.length yd) ∧ w'.cell? ⟨w9.heap.size, 0, none⟩ = some (.slice za rs.length zc) ∧ w'.cell? ⟨w9.heap.size, 1, none⟩ = some (.slice zb ts.length zd) ∧ w'.cell? ⟨w13.heap.size, 0, none⟩ = some (.slice ca M.length cc) ∧ w'.cell? ⟨w13.heap.size, 1, none⟩ = some (.slice cb N.length cd) ∧ w'.cell? ⟨w15.heap.size, 0, none⟩ = some (.slice ma M.length mc) ∧ w'.cell? ⟨w15.heap.size, 1, none⟩ = some (.slice mb N.length md) ∧ Below W16.heap.size W16 w')) (by kernel_rfl) ?_ (fun hH0 => ?_)
      · exact AT.out _ (Below.refl _ W16).drew
      refine wpAnyH_take (i := 0) (oi := { dst := some 58, op := Go.Op.move (Go.Operand.tmp 4), type := 9, pos := "laws.go:1468", after := #[], guard := none }) (v := ?_) rfl (by kernel_rfl) (by kernel_rfl) (by kernel_rfl) (fun _ _ _ h => h) (Or.inl ⟨by rfl, ?_⟩) (by assumption) ?_
      rotate_left
      · (intro w hSw; (try dsimp only at hSw); go_simp) <;> with_reducible rfl
      try simp only [Act.put, List.setIfInBounds_toArray, List.set_cons_zero, List.set_cons_succ]
      refine wpAnyH_take (i := 1) (oi := { dst := some 59, op := Go.Op.load 24 (Go.Operand.tmp 3), type := 24, pos := "laws.go:1468", after := #[], guard := none }) (v := ?_) rfl (by kernel_rfl) (by kernel_rfl) (by kernel_rfl) (fun _ _ _ h => h) (Or.inl ⟨by rfl, ?_⟩) (by assumption) ?_
      rotate_left
      · (intro w hSw; (try dsimp only at hSw); go_simp) <;> with_reducible rfl
      try simp only [Act.put, List.setIfInBounds_toArray, List.set_cons_zero, List.set_cons_succ]
      refine wpAnyH_ready (rs := [2]) (by kernel_rfl) (by simp) ?_
      refine AllReadyH.cons (o := { dst := some 60, op := Go.Op.call { callee := Go.Callee.value (Go.Operand.func 17), args := #[Go.Operand.tmp 59], argTypes := #[24] }, type := 9, pos := "laws.go:1468", after := #[{ on := 1, ground := Go.Ground.data }], guard := none }) rfl (fun K hK => ?_) AllReadyH.nil
      first | (go_at_call 17; (with_reducible refine Calls.mono (KS.out _ (by go_split_ands; assumption)) ?_); rintro e wKS ⟨rfl, hbKS⟩; have hkB := bel_in hbKS (by go_split_ands; assumption) (Nat.le_refl _)) | (go_simp; (go_at_call 17; (with_reducible refine Calls.mono (KS.out _ (by go_split_ands; assumption)) ?_); rintro e wKS ⟨rfl, hbKS⟩; have hkB := bel_in hbKS (by go_split_ands; assumption) (Nat.le_refl _)); go_wp2_with fail)
      refine hK.out _ _ ?_ (fun hH1 => ?_)
      · (try dsimp only); first | (with_reducible exact AT.out _ hkB) | (go_split_ands; (with_reducible exact AT.out _ hkB))
      clear hK K hH0
      try simp only [Act.put, List.setIfInBounds_toArray, List.set_cons_zero, List.set_cons_succ]
      refine wpAnyH_take (i := 3) (oi := { dst := some 61, op := Go.Op.binOp Go.BinOp.neq 9 (Go.Operand.tmp 58) (Go.Operand.tmp 60) 9, type := 4, pos := "laws.go:1468", after := #[{ on := 0, ground := Go.Ground.data }, { on := 2, ground := Go.Ground.data }], guard := none }) (v := ?_) rfl (by kernel_rfl) (by kernel_rfl) (by kernel_rfl) (fun _ _ _ h => h) (Or.inl ⟨by rfl, ?_⟩) (by assumption) ?_
      rotate_left
      · (intro w hSw; (try dsimp only at hSw); go_simp) <;> with_reducible rfl
      try simp only [Act.put, List.setIfInBounds_toArray, List.set_cons_zero, List.set_cons_succ]
      refine wpAnyH_take (i := 4) (oi := { dst := some 62, op := Go.Op.move (Go.Operand.tmp 61), type := 4, pos := "laws.go:1468", after := #[{ on := 3, ground := Go.Ground.data }, { on := 2, ground := Go.Ground.chain }], guard := none }) (v := ?_) rfl (by kernel_rfl) (by kernel_rfl) (by kernel_rfl) (fun _ _ _ h => h) (Or.inl ⟨by rfl, ?_⟩) (by assumption) ?_
      rotate_left
      · (intro w hSw; (try dsimp only at hSw); go_simp) <;> with_reducible rfl
      try simp only [Act.put, List.setIfInBounds_toArray, List.set_cons_zero, List.set_cons_succ]
      refine wpAnyH_take (i := 5) (oi := { dst := some 63, op := Go.Op.move (Go.Operand.tmp 6), type := 4, pos := "laws.go:1468", after := #[{ on := 4, ground := Go.Ground.guard }], guard := some (4, false) }) (v := ?_) rfl (by kernel_rfl) (by kernel_rfl) (by kernel_rfl) (fun _ _ _ h => h) (Or.inl ⟨by rfl, ?_⟩) (by assumption) ?_
      rotate_left
      · (intro w hSw; (try dsimp only at hSw); go_simp) <;> with_reducible rfl
      try simp only [Act.put, List.setIfInBounds_toArray, List.set_cons_zero, List.set_cons_succ]
      refine wpAnyH_take (i := 6) (oi := { dst := some 64, op := Go.Op.load 24 (Go.Operand.tmp 3), type := 24, pos := "laws.go:1468", after := #[{ on := 4, ground := Go.Ground.guard }], guard := some (4, false) }) (v := ?_) rfl (by kernel_rfl) (by kernel_rfl) (by kernel_rfl) (fun _ _ _ h => h) (Or.inl ⟨by rfl, ?_⟩) (by assumption) ?_
      rotate_left
      · (intro w hSw; (try dsimp only at hSw); go_simp) <;> with_reducible rfl
      try simp only [Act.put, List.setIfInBounds_toArray, List.set_cons_zero, List.set_cons_succ]
      refine wpAnyH_ready (rs := [7]) (by kernel_rfl) (by simp) ?_
      refine AllReadyH.cons (o := { dst := some 65, op := Go.Op.call { callee := Go.Callee.value (Go.Operand.func 18), args := #[Go.Operand.tmp 64], argTypes := #[24] }, type := 4, pos := "laws.go:1468", after := #[{ on := 6, ground := Go.Ground.data }, { on := 4, ground := Go.Ground.chain }, { on := 4, ground := Go.Ground.guard }], guard := some (4, false) }) rfl (fun K hK => ?_) AllReadyH.nil
      first | (go_at_call 18; (with_reducible refine Calls.mono (KI.out _ (by go_split_ands; assumption)) ?_); rintro e wKI ⟨rfl, hbKI⟩; have hkB := bel_in hbKI (by go_split_ands; assumption) (Nat.le_refl _)) | (go_simp; (go_at_call 18; (with_reducible refine Calls.mono (KI.out _ (by go_split_ands; assumption)) ?_); rintro e wKI ⟨rfl, hbKI⟩; have hkB := bel_in hbKI (by go_split_ands; assumption) (Nat.le_refl _)); go_wp2_with fail)
      refine hK.out _ _ ?_ (fun hH2 => ?_)
      · (try dsimp only); first | (with_reducible exact AT.out _ hkB) | (go_split_ands; (with_reducible exact AT.out _ hkB))
      clear hK K hH1
      try simp only [Act.put, List.setIfInBounds_toArray, List.set_cons_zero, List.set_cons_succ]
      refine wpAnyH_take (i := 8) (oi := { dst := some 66, op := Go.Op.binOp Go.BinOp.neq 4 (Go.Operand.tmp 63) (Go.Operand.tmp 65) 4, type := 4, pos := "laws.go:1468", after := #[{ on := 5, ground := Go.Ground.data }, { on := 7, ground := Go.Ground.data }, { on := 4, ground := Go.Ground.guard }], guard := some (4, false) }) (v := ?_) rfl (by kernel_rfl) (by kernel_rfl) (by kernel_rfl) (fun _ _ _ h => h) (Or.inl ⟨by rfl, ?_⟩) (by assumption) ?_
      rotate_left
      · (intro w hSw; (try dsimp only at hSw); go_simp) <;> with_reducible rfl
      try simp only [Act.put, List.setIfInBounds_toArray, List.set_cons_zero, List.set_cons_succ]
      refine wpAnyH_take (i := 9) (oi := { dst := some 67, op := Go.Op.pick (Go.Operand.tmp 62) (Go.Operand.const (Go.Value.bool true)) (Go.Operand.tmp 66), type := 4, pos := "laws.go:1468", after := #[{ on := 4, ground := Go.Ground.data }, { on := 8, ground := Go.Ground.data }], guard := none }) (v := ?_) rfl (by kernel_rfl) (by kernel_rfl) (by kernel_rfl) (fun _ _ _ h => h) (Or.inl ⟨by rfl, ?_⟩) (by assumption) ?_
      rotate_left
      · (intro w hSw; (try dsimp only at hSw); go_simp) <;> with_reducible rfl
      try simp only [Act.put, List.setIfInBounds_toArray, List.set_cons_zero, List.set_cons_succ]
      refine wpAnyH_take (i := 10) (oi := { dst := some 68, op := Go.Op.move (Go.Operand.tmp 67), type := 4, pos := "laws.go:1468", after := #[{ on := 9, ground := Go.Ground.data }, { on := 7, ground := Go.Ground.chain }], guard := none }) (v := ?_) rfl (by kernel_rfl) (by kernel_rfl) (by kernel_rfl) (fun _ _ _ h => h) (Or.inl ⟨by rfl, ?_⟩) (by assumption) ?_
      rotate_left
      · (intro w hSw; (try dsimp only at hSw); go_simp) <;> with_reducible rfl
      try simp only [Act.put, List.setIfInBounds_toArray, List.set_cons_zero, List.set_cons_succ]
      refine wpAnyH_take (i := 11) (oi := { dst := some 69, op := Go.Op.load 24 (Go.Operand.tmp 3), type := 24, pos := "laws.go:1468", after := #[{ on := 10, ground := Go.Ground.guard }], guard := some (10, false) }) (v := ?_) rfl (by kernel_rfl) (by kernel_rfl) (by kernel_rfl) (fun _ _ _ h => h) (Or.inl ⟨by rfl, ?_⟩) (by assumption) ?_
      rotate_left
      · (intro w hSw; (try dsimp only at hSw); go_simp) <;> with_reducible rfl
      try simp only [Act.put, List.setIfInBounds_toArray, List.set_cons_zero, List.set_cons_succ]
      refine wpAnyH_take (i := 13) (oi := { dst := some 71, op := Go.Op.load 24 (Go.Operand.tmp 3), type := 24, pos := "laws.go:1468", after := #[{ on := 10, ground := Go.Ground.guard }], guard := some (10, false) }) (v := ?_) rfl (by kernel_rfl) (by kernel_rfl) (by kernel_rfl) (fun _ _ _ h => h) (Or.inl ⟨by rfl, ?_⟩) (by assumption) ?_
      rotate_left
      · (intro w hSw; (try dsimp only at hSw); go_simp) <;> with_reducible rfl
      try simp only [Act.put, List.setIfInBounds_toArray, List.set_cons_zero, List.set_cons_succ]
      refine wpAnyH_ready (rs := [12]) (by kernel_rfl) (by simp) ?_
      refine AllReadyH.cons (o := { dst := some 70, op := Go.Op.call { callee := Go.Callee.value (Go.Operand.func 18), args := #[Go.Operand.tmp 69], argTypes := #[24] }, type := 4, pos := "laws.go:1468", after := #[{ on := 11, ground := Go.Ground.data }, { on := 10, ground := Go.Ground.chain }, { on := 10, ground := Go.Ground.guard }], guard := some (10, false) }) rfl (fun K hK => ?_) AllReadyH.nil
      first | (go_at_call 18; (with_reducible refine Calls.mono (KI.out _ (by go_split_ands; assumption)) ?_); rintro e wKI ⟨rfl, hbKI⟩; have hkB := bel_in hbKI (by go_split_ands; assumption) (Nat.le_refl _)) | (go_simp; (go_at_call 18; (with_reducible refine Calls.mono (KI.out _ (by go_split_ands; assumption)) ?_); rintro e wKI ⟨rfl, hbKI⟩; have hkB := bel_in hbKI (by go_split_ands; assumption) (Nat.le_refl _)); go_wp2_with fail)
      refine hK.out _ _ ?_ (fun hH3 => ?_)
      · (try dsimp only); first | (with_reducible exact AT.out _ hkB) | (go_split_ands; (with_reducible exact AT.out _ hkB))
      clear hK K hH2
      try simp only [Act.put, List.setIfInBounds_toArray, List.set_cons_zero, List.set_cons_succ]
      refine wpAnyH_ready (rs := [14]) (by kernel_rfl) (by simp) ?_
      refine AllReadyH.cons (o := { dst := some 72, op := Go.Op.call { callee := Go.Callee.value (Go.Operand.func 19), args := #[Go.Operand.tmp 71], argTypes := #[24] }, type := 4, pos := "laws.go:1468", after := #[{ on := 13, ground := Go.Ground.data }, { on := 12, ground := Go.Ground.chain }, { on := 10, ground := Go.Ground.guard }], guard := some (10, false) }) rfl (fun K hK => ?_) AllReadyH.nil
      first | (go_at_call 19; (with_reducible refine Calls.mono (KJ.out _ (by go_split_ands; assumption)) ?_); rintro e wKJ ⟨rfl, hbKJ⟩; have hkB := bel_in hbKJ (by go_split_ands; assumption) (Nat.le_refl _)) | (go_simp; (go_at_call 19; (with_reducible refine Calls.mono (KJ.out _ (by go_split_ands; assumption)) ?_); rintro e wKJ ⟨rfl, hbKJ⟩; have hkB := bel_in hbKJ (by go_split_ands; assumption) (Nat.le_refl _)); go_wp2_with fail)
      refine hK.out _ _ ?_ (fun hH4 => ?_)
      · (try dsimp only); first | (with_reducible exact AT.out _ hkB) | (go_split_ands; (with_reducible exact AT.out _ hkB))
      clear hK K hH3
      try simp only [Act.put, List.setIfInBounds_toArray, List.set_cons_zero, List.set_cons_succ]
      refine wpAnyH_take (i := 15) (oi := { dst := some 73, op := Go.Op.binOp Go.BinOp.neq 4 (Go.Operand.tmp 70) (Go.Operand.tmp 72) 4, type := 4, pos := "laws.go:1468", after := #[{ on := 12, ground := Go.Ground.data }, { on := 14, ground := Go.Ground.data }, { on := 10, ground := Go.Ground.guard }], guard := some (10, false) }) (v := ?_) rfl (by kernel_rfl) (by kernel_rfl) (by kernel_rfl) (fun _ _ _ h => h) (Or.inl ⟨by rfl, ?_⟩) (by assumption) ?_
      rotate_left
      · (intro w hSw; (try dsimp only at hSw); go_simp) <;> with_reducible rfl
      try simp only [Act.put, List.setIfInBounds_toArray, List.set_cons_zero, List.set_cons_succ]
      refine wpAnyH_take (i := 16) (oi := { dst := some 74, op := Go.Op.pick (Go.Operand.tmp 68) (Go.Operand.const (Go.Value.bool true)) (Go.Operand.tmp 73), type := 4, pos := "laws.go:1468", after := #[{ on := 10, ground := Go.Ground.data }, { on := 15, ground := Go.Ground.data }], guard := none }) (v := ?_) rfl (by kernel_rfl) (by kernel_rfl) (by kernel_rfl) (fun _ _ _ h => h) (Or.inl ⟨by rfl, ?_⟩) (by assumption) ?_
      rotate_left
      · (intro w hSw; (try dsimp only at hSw); go_simp) <;> with_reducible rfl
      try simp only [Act.put, List.setIfInBounds_toArray, List.set_cons_zero, List.set_cons_succ]
      refine wpAnyH_take (i := 17) (oi := { dst := some 75, op := Go.Op.move (Go.Operand.tmp 74), type := 4, pos := "laws.go:1468", after := #[{ on := 16, ground := Go.Ground.data }, { on := 14, ground := Go.Ground.chain }], guard := none }) (v := ?_) rfl (by kernel_rfl) (by kernel_rfl) (by kernel_rfl) (fun _ _ _ h => h) (Or.inl ⟨by rfl, ?_⟩) (by assumption) ?_
      rotate_left
      · (intro w hSw; (try dsimp only at hSw); go_simp) <;> with_reducible rfl
      try simp only [Act.put, List.setIfInBounds_toArray, List.set_cons_zero, List.set_cons_succ]
      refine wpAnyH_take (i := 18) (oi := { dst := some 76, op := Go.Op.move (Go.Operand.tmp 6), type := 4, pos := "laws.go:1468", after := #[{ on := 17, ground := Go.Ground.guard }], guard := some (17, false) }) (v := ?_) rfl (by kernel_rfl) (by kernel_rfl) (by kernel_rfl) (fun _ _ _ h => h) (Or.inl ⟨by rfl, ?_⟩) (by assumption) ?_
      rotate_left
      · (intro w hSw; (try dsimp only at hSw); go_simp) <;> with_reducible rfl
      try simp only [Act.put, List.setIfInBounds_toArray, List.set_cons_zero, List.set_cons_succ]
      refine wpAnyH_take (i := 19) (oi := { dst := some 77, op := Go.Op.move (Go.Operand.tmp 76), type := 4, pos := "laws.go:1468", after := #[{ on := 18, ground := Go.Ground.data }, { on := 17, ground := Go.Ground.chain }, { on := 17, ground := Go.Ground.guard }], guard := some (17, false) }) (v := ?_) rfl (by kernel_rfl) (by kernel_rfl) (by kernel_rfl) (fun _ _ _ h => h) (Or.inl ⟨by rfl, ?_⟩) (by assumption) ?_
      rotate_left
      · (intro w hSw; (try dsimp only at hSw); go_simp) <;> with_reducible rfl
      try simp only [Act.put, List.setIfInBounds_toArray, List.set_cons_zero, List.set_cons_succ]
      refine wpAnyH_take (i := 20) (oi := { dst := some 78, op := Go.Op.load 24 (Go.Operand.tmp 5), type := 24, pos := "laws.go:1468", after := #[{ on := 19, ground := Go.Ground.guard }], guard := some (19, true) }) (v := undef) rfl (by kernel_rfl) (by kernel_rfl) (by kernel_rfl) (fun _ _ _ h => h) (Or.inr ⟨by rfl, rfl⟩) (by assumption) ?_
      try simp only [Act.put, List.setIfInBounds_toArray, List.set_cons_zero, List.set_cons_succ]
      refine wpAnyH_take (i := 21) (oi := { dst := some 79, op := Go.Op.load 24 (Go.Operand.tmp 3), type := 24, pos := "laws.go:1468", after := #[{ on := 19, ground := Go.Ground.guard }], guard := some (19, true) }) (v := undef) rfl (by kernel_rfl) (by kernel_rfl) (by kernel_rfl) (fun _ _ _ h => h) (Or.inr ⟨by rfl, rfl⟩) (by assumption) ?_
      try simp only [Act.put, List.setIfInBounds_toArray, List.set_cons_zero, List.set_cons_succ]
      refine wpAnyH_take (i := 22) (oi := { dst := some 80, op := Go.Op.call { callee := Go.Callee.value (Go.Operand.func 20), args := #[Go.Operand.tmp 78, Go.Operand.tmp 79], argTypes := #[24, 24] }, type := 4, pos := "laws.go:1468", after := #[{ on := 20, ground := Go.Ground.data }, { on := 21, ground := Go.Ground.data }, { on := 19, ground := Go.Ground.chain }, { on := 19, ground := Go.Ground.guard }], guard := some (19, true) }) (v := undef) rfl (by kernel_rfl) (by kernel_rfl) (by kernel_rfl) (fun _ _ _ h => h) (Or.inr ⟨by rfl, rfl⟩) (by assumption) ?_
      try simp only [Act.put, List.setIfInBounds_toArray, List.set_cons_zero, List.set_cons_succ]
      refine wpAnyH_take (i := 23) (oi := { dst := some 81, op := Go.Op.unOp Go.UnOp.not 4 (Go.Operand.tmp 80), type := 4, pos := "laws.go:1468", after := #[{ on := 22, ground := Go.Ground.data }, { on := 19, ground := Go.Ground.guard }], guard := some (19, true) }) (v := undef) rfl (by kernel_rfl) (by kernel_rfl) (by kernel_rfl) (fun _ _ _ h => h) (Or.inr ⟨by rfl, rfl⟩) (by assumption) ?_
      try simp only [Act.put, List.setIfInBounds_toArray, List.set_cons_zero, List.set_cons_succ]
      refine wpAnyH_take (i := 24) (oi := { dst := some 82, op := Go.Op.pick (Go.Operand.tmp 77) (Go.Operand.tmp 81) (Go.Operand.const (Go.Value.bool false)), type := 4, pos := "laws.go:1468", after := #[{ on := 19, ground := Go.Ground.data }, { on := 23, ground := Go.Ground.data }, { on := 17, ground := Go.Ground.guard }], guard := some (17, false) }) (v := ?_) rfl (by kernel_rfl) (by kernel_rfl) (by kernel_rfl) (fun _ _ _ h => h) (Or.inl ⟨by rfl, ?_⟩) (by assumption) ?_
      rotate_left
      · (intro w hSw; (try dsimp only at hSw); go_simp) <;> with_reducible rfl
      try simp only [Act.put, List.setIfInBounds_toArray, List.set_cons_zero, List.set_cons_succ]
      refine wpAnyH_take (i := 25) (oi := { dst := some 83, op := Go.Op.pick (Go.Operand.tmp 75) (Go.Operand.const (Go.Value.bool true)) (Go.Operand.tmp 82), type := 4, pos := "laws.go:1468", after := #[{ on := 17, ground := Go.Ground.data }, { on := 24, ground := Go.Ground.data }], guard := none }) (v := ?_) rfl (by kernel_rfl) (by kernel_rfl) (by kernel_rfl) (fun _ _ _ h => h) (Or.inl ⟨by rfl, ?_⟩) (by assumption) ?_
      rotate_left
      · (intro w hSw; (try dsimp only at hSw); go_simp) <;> with_reducible rfl
      try simp only [Act.put, List.setIfInBounds_toArray, List.set_cons_zero, List.set_cons_succ]
      refine wpAnyH_take (i := 26) (oi := { dst := some 84, op := Go.Op.move (Go.Operand.tmp 83), type := 4, pos := "laws.go:1468", after := #[{ on := 25, ground := Go.Ground.data }, { on := 22, ground := Go.Ground.chain }], guard := none }) (v := ?_) rfl (by kernel_rfl) (by kernel_rfl) (by kernel_rfl) (fun _ _ _ h => h) (Or.inl ⟨by rfl, ?_⟩) (by assumption) ?_
      rotate_left
      · (intro w hSw; (try dsimp only at hSw); go_simp) <;> with_reducible rfl
      try simp only [Act.put, List.setIfInBounds_toArray, List.set_cons_zero, List.set_cons_succ]
      refine wpAnyH_take (i := 27) (oi := { dst := some 85, op := Go.Op.move (Go.Operand.tmp 9), type := 4, pos := "laws.go:1468", after := #[{ on := 26, ground := Go.Ground.guard }], guard := some (26, false) }) (v := ?_) rfl (by kernel_rfl) (by kernel_rfl) (by kernel_rfl) (fun _ _ _ h => h) (Or.inl ⟨by rfl, ?_⟩) (by assumption) ?_
      rotate_left
      · (intro w hSw; (try dsimp only at hSw); go_simp) <;> with_reducible rfl
      try simp only [Act.put, List.setIfInBounds_toArray, List.set_cons_zero, List.set_cons_succ]
      refine wpAnyH_take (i := 28) (oi := { dst := some 86, op := Go.Op.move (Go.Operand.tmp 11), type := 4, pos := "laws.go:1468", after := #[{ on := 26, ground := Go.Ground.guard }], guard := some (26, false) }) (v := ?_) rfl (by kernel_rfl) (by kernel_rfl) (by kernel_rfl) (fun _ _ _ h => h) (Or.inl ⟨by rfl, ?_⟩) (by assumption) ?_
      rotate_left
      · (intro w hSw; (try dsimp only at hSw); go_simp) <;> with_reducible rfl
      try simp only [Act.put, List.setIfInBounds_toArray, List.set_cons_zero, List.set_cons_succ]
      refine wpAnyH_take (i := 29) (oi := { dst := some 87, op := Go.Op.binOp Go.BinOp.neq 4 (Go.Operand.tmp 85) (Go.Operand.tmp 86) 4, type := 4, pos := "laws.go:1468", after := #[{ on := 27, ground := Go.Ground.data }, { on := 28, ground := Go.Ground.data }, { on := 26, ground := Go.Ground.guard }], guard := some (26, false) }) (v := ?_) rfl (by kernel_rfl) (by kernel_rfl) (by kernel_rfl) (fun _ _ _ h => h) (Or.inl ⟨by rfl, ?_⟩) (by assumption) ?_
      rotate_left
      · (intro w hSw; (try dsimp only at hSw); go_simp) <;> with_reducible rfl
      try simp only [Act.put, List.setIfInBounds_toArray, List.set_cons_zero, List.set_cons_succ]
      refine wpAnyH_take (i := 30) (oi := { dst := some 88, op := Go.Op.pick (Go.Operand.tmp 84) (Go.Operand.const (Go.Value.bool true)) (Go.Operand.tmp 87), type := 4, pos := "laws.go:1468", after := #[{ on := 26, ground := Go.Ground.data }, { on := 29, ground := Go.Ground.data }], guard := none }) (v := ?_) rfl (by kernel_rfl) (by kernel_rfl) (by kernel_rfl) (fun _ _ _ h => h) (Or.inl ⟨by rfl, ?_⟩) (by assumption) ?_
      rotate_left
      · (intro w hSw; (try dsimp only at hSw); go_simp) <;> with_reducible rfl
      try simp only [Act.put, List.setIfInBounds_toArray, List.set_cons_zero, List.set_cons_succ]
      refine wpAnyH_take (i := 31) (oi := { dst := some 89, op := Go.Op.move (Go.Operand.tmp 88), type := 4, pos := "laws.go:1468", after := #[{ on := 30, ground := Go.Ground.data }, { on := 26, ground := Go.Ground.chain }], guard := none }) (v := ?_) rfl (by kernel_rfl) (by kernel_rfl) (by kernel_rfl) (fun _ _ _ h => h) (Or.inl ⟨by rfl, ?_⟩) (by assumption) ?_
      rotate_left
      · (intro w hSw; (try dsimp only at hSw); go_simp) <;> with_reducible rfl
      try simp only [Act.put, List.setIfInBounds_toArray, List.set_cons_zero, List.set_cons_succ]
      refine wpAnyH_take (i := 32) (oi := { dst := some 90, op := Go.Op.load 24 (Go.Operand.tmp 8), type := 24, pos := "laws.go:1468", after := #[{ on := 31, ground := Go.Ground.guard }], guard := some (31, false) }) (v := ?_) rfl (by kernel_rfl) (by kernel_rfl) (by kernel_rfl) (fun _ _ _ h => h) (Or.inl ⟨by rfl, ?_⟩) (by assumption) ?_
      rotate_left
      · (intro w hSw; (try dsimp only at hSw); go_simp) <;> with_reducible rfl
      try simp only [Act.put, List.setIfInBounds_toArray, List.set_cons_zero, List.set_cons_succ]
      refine wpAnyH_take (i := 33) (oi := { dst := some 91, op := Go.Op.load 24 (Go.Operand.tmp 10), type := 24, pos := "laws.go:1468", after := #[{ on := 31, ground := Go.Ground.guard }], guard := some (31, false) }) (v := ?_) rfl (by kernel_rfl) (by kernel_rfl) (by kernel_rfl) (fun _ _ _ h => h) (Or.inl ⟨by rfl, ?_⟩) (by assumption) ?_
      rotate_left
      · (intro w hSw; (try dsimp only at hSw); go_simp) <;> with_reducible rfl
      try simp only [Act.put, List.setIfInBounds_toArray, List.set_cons_zero, List.set_cons_succ]
      refine wpAnyH_ready (rs := [34]) (by kernel_rfl) (by simp) ?_
      refine AllReadyH.cons (o := { dst := some 92, op := Go.Op.call { callee := Go.Callee.value (Go.Operand.func 20), args := #[Go.Operand.tmp 90, Go.Operand.tmp 91], argTypes := #[24, 24] }, type := 4, pos := "laws.go:1468", after := #[{ on := 32, ground := Go.Ground.data }, { on := 33, ground := Go.Ground.data }, { on := 31, ground := Go.Ground.chain }, { on := 31, ground := Go.Ground.guard }], guard := some (31, false) }) rfl (fun K hK => ?_) AllReadyH.nil
      first | (go_at_call 20; (with_reducible refine Calls.mono (KY.out _ (by go_split_ands; assumption)) ?_); rintro e wKY ⟨rfl, hbKY⟩; have hkB := bel_in hbKY (by go_split_ands; assumption) (Nat.le_refl _)) | (go_simp; (go_at_call 20; (with_reducible refine Calls.mono (KY.out _ (by go_split_ands; assumption)) ?_); rintro e wKY ⟨rfl, hbKY⟩; have hkB := bel_in hbKY (by go_split_ands; assumption) (Nat.le_refl _)); go_wp2_with fail)
      refine hK.out _ _ ?_ (fun hH5 => ?_)
      · (try dsimp only); first | (with_reducible exact AT.out _ hkB) | (go_split_ands; (with_reducible exact AT.out _ hkB))
      clear hK K hH4
      try simp only [Act.put, List.setIfInBounds_toArray, List.set_cons_zero, List.set_cons_succ]
      refine wpAnyH_take (i := 35) (oi := { dst := some 93, op := Go.Op.unOp Go.UnOp.not 4 (Go.Operand.tmp 92), type := 4, pos := "laws.go:1468", after := #[{ on := 34, ground := Go.Ground.data }, { on := 31, ground := Go.Ground.guard }], guard := some (31, false) }) (v := ?_) rfl (by kernel_rfl) (by kernel_rfl) (by kernel_rfl) (fun _ _ _ h => h) (Or.inl ⟨by rfl, ?_⟩) (by assumption) ?_
      rotate_left
      · (intro w hSw; (try dsimp only at hSw); go_simp) <;> with_reducible rfl
      try simp only [Act.put, List.setIfInBounds_toArray, List.set_cons_zero, List.set_cons_succ]
      refine wpAnyH_take (i := 36) (oi := { dst := some 94, op := Go.Op.pick (Go.Operand.tmp 89) (Go.Operand.const (Go.Value.bool true)) (Go.Operand.tmp 93), type := 4, pos := "laws.go:1468", after := #[{ on := 31, ground := Go.Ground.data }, { on := 35, ground := Go.Ground.data }], guard := none }) (v := ?_) rfl (by kernel_rfl) (by kernel_rfl) (by kernel_rfl) (fun _ _ _ h => h) (Or.inl ⟨by rfl, ?_⟩) (by assumption) ?_
      rotate_left
      · (intro w hSw; (try dsimp only at hSw); go_simp) <;> with_reducible rfl
      try simp only [Act.put, List.setIfInBounds_toArray, List.set_cons_zero, List.set_cons_succ]
      refine wpAnyH_take (i := 37) (oi := { dst := some 95, op := Go.Op.move (Go.Operand.tmp 94), type := 4, pos := "laws.go:1468", after := #[{ on := 36, ground := Go.Ground.data }, { on := 34, ground := Go.Ground.chain }], guard := none }) (v := ?_) rfl (by kernel_rfl) (by kernel_rfl) (by kernel_rfl) (fun _ _ _ h => h) (Or.inl ⟨by rfl, ?_⟩) (by assumption) ?_
      rotate_left
      · (intro w hSw; (try dsimp only at hSw); go_simp) <;> with_reducible rfl
      try simp only [Act.put, List.setIfInBounds_toArray, List.set_cons_zero, List.set_cons_succ]
      refine wpAnyH_take (i := 38) (oi := { dst := some 96, op := Go.Op.move (Go.Operand.tmp 15), type := 2, pos := "laws.go:1468", after := #[{ on := 37, ground := Go.Ground.guard }], guard := some (37, false) }) (v := ?_) rfl (by kernel_rfl) (by kernel_rfl) (by kernel_rfl) (fun _ _ _ h => h) (Or.inl ⟨by rfl, ?_⟩) (by assumption) ?_
      rotate_left
      · (intro w hSw; (try dsimp only at hSw); go_simp) <;> with_reducible rfl
      try simp only [Act.put, List.setIfInBounds_toArray, List.set_cons_zero, List.set_cons_succ]
      refine wpAnyH_take (i := 39) (oi := { dst := some 97, op := Go.Op.move (Go.Operand.tmp 17), type := 2, pos := "laws.go:1468", after := #[{ on := 37, ground := Go.Ground.guard }], guard := some (37, false) }) (v := ?_) rfl (by kernel_rfl) (by kernel_rfl) (by kernel_rfl) (fun _ _ _ h => h) (Or.inl ⟨by rfl, ?_⟩) (by assumption) ?_
      rotate_left
      · (intro w hSw; (try dsimp only at hSw); go_simp) <;> with_reducible rfl
      try simp only [Act.put, List.setIfInBounds_toArray, List.set_cons_zero, List.set_cons_succ]
      refine wpAnyH_take (i := 40) (oi := { dst := some 98, op := Go.Op.binOp Go.BinOp.neq 2 (Go.Operand.tmp 96) (Go.Operand.tmp 97) 2, type := 4, pos := "laws.go:1468", after := #[{ on := 38, ground := Go.Ground.data }, { on := 39, ground := Go.Ground.data }, { on := 37, ground := Go.Ground.guard }], guard := some (37, false) }) (v := ?_) rfl (by kernel_rfl) (by kernel_rfl) (by kernel_rfl) (fun _ _ _ h => h) (Or.inl ⟨by rfl, ?_⟩) (by assumption) ?_
      rotate_left
      · (intro w hSw; (try dsimp only at hSw); go_simp) <;> with_reducible rfl
      try simp only [Act.put, List.setIfInBounds_toArray, List.set_cons_zero, List.set_cons_succ]
      refine wpAnyH_take (i := 41) (oi := { dst := some 99, op := Go.Op.pick (Go.Operand.tmp 95) (Go.Operand.const (Go.Value.bool true)) (Go.Operand.tmp 98), type := 4, pos := "laws.go:1468", after := #[{ on := 37, ground := Go.Ground.data }, { on := 40, ground := Go.Ground.data }], guard := none }) (v := ?_) rfl (by kernel_rfl) (by kernel_rfl) (by kernel_rfl) (fun _ _ _ h => h) (Or.inl ⟨by rfl, ?_⟩) (by assumption) ?_
      rotate_left
      · (intro w hSw; (try dsimp only at hSw); go_simp) <;> with_reducible rfl
      try simp only [Act.put, List.setIfInBounds_toArray, List.set_cons_zero, List.set_cons_succ]
      refine wpAnyH_take (i := 42) (oi := { dst := some 100, op := Go.Op.move (Go.Operand.tmp 99), type := 4, pos := "laws.go:1468", after := #[{ on := 41, ground := Go.Ground.data }, { on := 37, ground := Go.Ground.chain }], guard := none }) (v := ?_) rfl (by kernel_rfl) (by kernel_rfl) (by kernel_rfl) (fun _ _ _ h => h) (Or.inl ⟨by rfl, ?_⟩) (by assumption) ?_
      rotate_left
      · (intro w hSw; (try dsimp only at hSw); go_simp) <;> with_reducible rfl
      try simp only [Act.put, List.setIfInBounds_toArray, List.set_cons_zero, List.set_cons_succ]
      refine wpAnyH_take (i := 43) (oi := { dst := some 101, op := Go.Op.load 24 (Go.Operand.tmp 14), type := 24, pos := "laws.go:1468", after := #[{ on := 42, ground := Go.Ground.guard }], guard := some (42, false) }) (v := ?_) rfl (by kernel_rfl) (by kernel_rfl) (by kernel_rfl) (fun _ _ _ h => h) (Or.inl ⟨by rfl, ?_⟩) (by assumption) ?_
      rotate_left
      · (intro w hSw; (try dsimp only at hSw); go_simp) <;> with_reducible rfl
      try simp only [Act.put, List.setIfInBounds_toArray, List.set_cons_zero, List.set_cons_succ]
      refine wpAnyH_take (i := 44) (oi := { dst := some 102, op := Go.Op.load 24 (Go.Operand.tmp 16), type := 24, pos := "laws.go:1468", after := #[{ on := 42, ground := Go.Ground.guard }], guard := some (42, false) }) (v := ?_) rfl (by kernel_rfl) (by kernel_rfl) (by kernel_rfl) (fun _ _ _ h => h) (Or.inl ⟨by rfl, ?_⟩) (by assumption) ?_
      rotate_left
      · (intro w hSw; (try dsimp only at hSw); go_simp) <;> with_reducible rfl
      try simp only [Act.put, List.setIfInBounds_toArray, List.set_cons_zero, List.set_cons_succ]
      refine wpAnyH_ready (rs := [45]) (by kernel_rfl) (by simp) ?_
      refine AllReadyH.cons (o := { dst := some 103, op := Go.Op.call { callee := Go.Callee.value (Go.Operand.func 20), args := #[Go.Operand.tmp 101, Go.Operand.tmp 102], argTypes := #[24, 24] }, type := 4, pos := "laws.go:1468", after := #[{ on := 43, ground := Go.Ground.data }, { on := 44, ground := Go.Ground.data }, { on := 42, ground := Go.Ground.chain }, { on := 42, ground := Go.Ground.guard }], guard := some (42, false) }) rfl (fun K hK => ?_) AllReadyH.nil
      first | (go_at_call 20; (with_reducible refine Calls.mono (KM.out _ (by go_split_ands; assumption)) ?_); rintro e wKM ⟨rfl, hbKM⟩; have hkB := bel_in hbKM (by go_split_ands; assumption) (Nat.le_refl _)) | (go_simp; (go_at_call 20; (with_reducible refine Calls.mono (KM.out _ (by go_split_ands; assumption)) ?_); rintro e wKM ⟨rfl, hbKM⟩; have hkB := bel_in hbKM (by go_split_ands; assumption) (Nat.le_refl _)); go_wp2_with fail)
      refine hK.out _ _ ?_ (fun hH6 => ?_)
      · (try dsimp only); first | (with_reducible exact AT.out _ hkB) | (go_split_ands; (with_reducible exact AT.out _ hkB))
      clear hK K hH5
      try simp only [Act.put, List.setIfInBounds_toArray, List.set_cons_zero, List.set_cons_succ]
      refine wpAnyH_take (i := 46) (oi := { dst := some 104, op := Go.Op.unOp Go.UnOp.not 4 (Go.Operand.tmp 103), type := 4, pos := "laws.go:1468", after := #[{ on := 45, ground := Go.Ground.data }, { on := 42, ground := Go.Ground.guard }], guard := some (42, false) }) (v := ?_) rfl (by kernel_rfl) (by kernel_rfl) (by kernel_rfl) (fun _ _ _ h => h) (Or.inl ⟨by rfl, ?_⟩) (by assumption) ?_
      rotate_left
      · (intro w hSw; (try dsimp only at hSw); go_simp) <;> with_reducible rfl
      try simp only [Act.put, List.setIfInBounds_toArray, List.set_cons_zero, List.set_cons_succ]
      refine wpAnyH_take (i := 47) (oi := { dst := some 105, op := Go.Op.pick (Go.Operand.tmp 100) (Go.Operand.const (Go.Value.bool true)) (Go.Operand.tmp 104), type := 4, pos := "laws.go:1468", after := #[{ on := 42, ground := Go.Ground.data }, { on := 46, ground := Go.Ground.data }], guard := none }) (v := ?_) rfl (by kernel_rfl) (by kernel_rfl) (by kernel_rfl) (fun _ _ _ h => h) (Or.inl ⟨by rfl, ?_⟩) (by assumption) ?_
      rotate_left
      · (intro w hSw; (try dsimp only at hSw); go_simp) <;> with_reducible rfl
      try simp only [Act.put, List.setIfInBounds_toArray, List.set_cons_zero, List.set_cons_succ]
      refine wpAnyH_done (by kernel_rfl) ?_ _
      all_goals (go_wp2_with fail; go_meet; go_split_ands)
      all_goals (exact ⟨rfl, hkB⟩)
    case rest =>
      obtain ⟨rfl, hb⟩ := hcut
      clear KS KI KJ KY KM
      replace bA := bA.on hb
      replace bX := bX.on hb
      replace bY := bY.on hb
      replace bZ := bZ.on hb
      replace bQ := bQ.on hb
      replace bC := bC.on hb
      replace bM := bM.on hb
      replace HP := Lib.hid (HP.out.on hb)
      replace HX := Lib.hid (HX.out.on hb)
      replace HY := Lib.hid (HY.out.on hb)
      replace HZ := Lib.hid (HZ.out.on hb)
      replace HQ := Lib.hid (HQ.out.on hb)
      replace HCC := Lib.hid (HCC.out.on hb)
      replace HMM := Lib.hid (HMM.out.on hb)
      replace HB := Lib.hid (bel_end HB.out hb)
      clear hb bA bX bY bZ bM
      by_cases h0 : q = 0
      case neg =>
        have h0b : (q != 0) = true := by simpa using h0
        have bQ_0 := bQ.cell 0 rfl
        have bQ_1 := bQ.cell 1 rfl
        have bQ_l := bQ.lt
        have bC_0 := bC.cell 0 rfl
        have bC_1 := bC.cell 1 rfl
        have bC_l := bC.lt
        go_upto_region 14 with fail
        go_quiet (fail)
        go_wp2
        go_ret
        exact ⟨rfl, bel_drewN HB.out _⟩
      case pos =>
        obtain ⟨K, rfl, hK, hM, hV⟩ := FC.out h0
        subst h0
        clear FC
        have hn2 := HQ.out.n1
        have eM : M.length = K + 1 := by rw [hM, List.length_take]; omega
        have HI : Hid (Ints .i64 wc wc.heap.size a2 M) := Lib.hid (by rw [hM]; exact HQ.out.at_.dz.take _)
        obtain ⟨bz, oz, rfl, hBz, -⟩ := HQ.out.at_.dz (show 0 < zs2.length by omega)
        have KP : Hid (∀ w' : World, Below wc.heap.size wc w' → Calls Tryd.prog 18 #[.agg #[.slice ca M.length cc, .slice cb N.length cd]] w' fun e w'' => e = .returned (.bool true) ∧ Below w'.heap.size w' w'') := Lib.hid (fun w' hb => by have := ipr_any w' ca cb cc cd M N (HCC.out.prof.on hb); rwa [hV] at this)
        have KK : Hid (∀ w' : World, Below wc.heap.size wc w' → Calls Tryd.prog 21 #[.slice ca M.length cc, .slice (some ⟨bz, oz, none⟩) (K + 1) c2] w' fun e w'' => e = .returned (.bool true) ∧ Below w'.heap.size w' w'') := Lib.hid (fun w' hb => by have := lki_any w' w'.heap.size ca (some ⟨bz, oz, none⟩) cc c2 M (by omega) (HCC.out.prof.on hb).dz ((HI.out.below hb).more hb.size); rw [eM] at this ⊢; exact this.mono fun e w'' h => by obtain ⟨rfl, n, rfl⟩ := h; exact ⟨rfl, bel_drewN (Below.refl _ _) _⟩)
        have hcc2 := HC1.out
        clear hM hV eM HI
        have ew : IntKind.wrap .i64 ((K : Int) + 1) = (K : Int) + 1 := IntWalk.i64_in _ (by omega)
        have i1 : (0 : Int) ≤ (K : Int) + 1 := by omega
        have i2 : ((K : Int) + 1).toNat = K + 1 := by omega
        have i3 : (K : Int) + 1 ≤ (c2 : Int) := by omega
        have i5 : ¬ K + 1 = c2 ∨ K + 1 = c2 := by omega
        have at16 : ∀ (w' : World), Below wc.heap.size wc w' → w'.cell? ⟨w11.heap.size, 0, none⟩ = some (.slice (some ⟨bz, oz, none⟩) zs2.length c2) ∧ w'.cell? ⟨w11.heap.size, 1, none⟩ = some (.slice b2 ys2.length d2) ∧ w'.cell? ⟨w13.heap.size, 0, none⟩ = some (.slice ca M.length cc) ∧ w'.cell? ⟨w13.heap.size, 1, none⟩ = some (.slice cb N.length cd) ∧ Below wc.heap.size wc w' := fun _ H => ⟨(bQ.on H).cell 0 rfl, (bQ.on H).cell 1 rfl, (bC.on H).cell 0 rfl, (bC.on H).cell 1 rfl, H⟩
        have AT := Lib.hid at16
        clear at16 bQ bC
        go_upto_region 14 with fail
        go_region_held3 (fun w' => w'.cell? ⟨w11.heap.size, 0, none⟩ = some (.slice (some ⟨bz, oz, none⟩) zs2.length c2) ∧ w'.cell? ⟨w11.heap.size, 1, none⟩ = some (.slice b2 ys2.length d2) ∧ w'.cell? ⟨w13.heap.size, 0, none⟩ = some (.slice ca M.length cc) ∧ w'.cell? ⟨w13.heap.size, 1, none⟩ = some (.slice cb N.length cd) ∧ Below wc.heap.size wc w')
          (first
            | (exact AT.out _ (Below.refl _ wc).drew)
            | (go_split_ands; (with_reducible exact AT.out _ hkB)))
          (first
            | (go_at_call 18; (with_reducible refine Calls.mono (KP.out _ (by go_split_ands; assumption)) ?_); rintro e wKP ⟨rfl, hbKP⟩; have hkB := bel_in hbKP (by go_split_ands; assumption) (Nat.le_refl _))
            | (go_at_call 21; (with_reducible refine Calls.mono (KK.out _ (by go_split_ands; assumption)) ?_); rintro e wKK ⟨rfl, hbKK⟩; have hkB := bel_in hbKK (by go_split_ands; assumption) (Nat.le_refl _)))
        all_goals (go_wp2_with fail; go_ret; exact ⟨rfl, bel_end HB.out hkB⟩)
  · obtain ⟨e1, e2⟩ := FX.out.2 rfl
    replace e1 := e1.symm
    replace e2 := e2.symm
    subst e1 e2
    have KX : Hid (∀ w' : World, Below W16.heap.size W16 w' → Calls Tryd.prog 20 #[.agg #[.slice xa zs.length xc, .slice xb ys.length xd], .agg #[.slice a1 zs.length c1, .slice b1 ys.length d1]] w' fun e w'' => e = .returned (.bool true) ∧ Below w'.heap.size w' w'') := Lib.hid (fun w' hb => lkp_any w' _ _ _ _ _ _ _ _ zs ys (HX.out.prof.on hb) (HP.out.at_.on hb))
    clear FX HOK HTT
    go_upto_region 12 with fail
    go_cut [105] (fun s wx => s = .bool false ∧ Below W16.heap.size W16 wx)
    case first =>
      have at15 : ∀ (w' : World), Below W16.heap.size W16 w' → w'.cell? ⟨w1.heap.size, 0, none⟩ = some (.slice a1 zs.length c1) ∧ w'.cell? ⟨w1.heap.size, 1, none⟩ = some (.slice b1 ys.length d1) ∧ w'.cell? ⟨w4.heap.size, 0, none⟩ = some (.slice xa zs.length xc) ∧ w'.cell? ⟨w4.heap.size, 1, none⟩ = some (.slice xb ys.length xd) ∧ w'.cell? ⟨w7.heap.size, 0, none⟩ = some (.slice ya rs.length yc) ∧ w'.cell? ⟨w7.heap.size, 1, none⟩ = some (.slice yb ts.length yd) ∧ w'.cell? ⟨w9.heap.size, 0, none⟩ = some (.slice za rs.length zc) ∧ w'.cell? ⟨w9.heap.size, 1, none⟩ = some (.slice zb ts.length zd) ∧ w'.cell? ⟨w13.heap.size, 0, none⟩ = some (.slice ca M.length cc) ∧ w'.cell? ⟨w13.heap.size, 1, none⟩ = some (.slice cb N.length cd) ∧ w'.cell? ⟨w15.heap.size, 0, none⟩ = some (.slice ma M.length mc) ∧ w'.cell? ⟨w15.heap.size, 1, none⟩ = some (.slice mb N.length md) ∧ Below W16.heap.size W16 w' := fun _ H => ⟨(bA.on H).cell 0 rfl, (bA.on H).cell 1 rfl, (bX.on H).cell 0 rfl, (bX.on H).cell 1 rfl, (bY.on H).cell 0 rfl, (bY.on H).cell 1 rfl, (bZ.on H).cell 0 rfl, (bZ.on H).cell 1 rfl, (bC.on H).cell 0 rfl, (bC.on H).cell 1 rfl, (bM.on H).cell 0 rfl, (bM.on H).cell 1 rfl, H⟩
      have AT := Lib.hid at15
      clear at15
      go_region_held3 (fun w' => w'.cell? ⟨w1.heap.size, 0, none⟩ = some (.slice a1 zs.length c1) ∧ w'.cell? ⟨w1.heap.size, 1, none⟩ = some (.slice b1 ys.length d1) ∧ w'.cell? ⟨w4.heap.size, 0, none⟩ = some (.slice xa zs.length xc) ∧ w'.cell? ⟨w4.heap.size, 1, none⟩ = some (.slice xb ys.length xd) ∧ w'.cell? ⟨w7.heap.size, 0, none⟩ = some (.slice ya rs.length yc) ∧ w'.cell? ⟨w7.heap.size, 1, none⟩ = some (.slice yb ts.length yd) ∧ w'.cell? ⟨w9.heap.size, 0, none⟩ = some (.slice za rs.length zc) ∧ w'.cell? ⟨w9.heap.size, 1, none⟩ = some (.slice zb ts.length zd) ∧ w'.cell? ⟨w13.heap.size, 0, none⟩ = some (.slice ca M.length cc) ∧ w'.cell? ⟨w13.heap.size, 1, none⟩ = some (.slice cb N.length cd) ∧ w'.cell? ⟨w15.heap.size, 0, none⟩ = some (.slice ma M.length mc) ∧ w'.cell? ⟨w15.heap.size, 1, none⟩ = some (.slice mb N.length md) ∧ Below W16.heap.size W16 w')
        (first
          | (exact AT.out _ (Below.refl _ W16).drew)
          | (go_split_ands; (with_reducible exact AT.out _ hkB)))
        (first
          | (go_at_call 17; (with_reducible refine Calls.mono (KS.out _ (by go_split_ands; assumption)) ?_); rintro e wKS ⟨rfl, hbKS⟩; have hkB := bel_in hbKS (by go_split_ands; assumption) (Nat.le_refl _))
          | (go_at_call 18; (with_reducible refine Calls.mono (KI.out _ (by go_split_ands; assumption)) ?_); rintro e wKI ⟨rfl, hbKI⟩; have hkB := bel_in hbKI (by go_split_ands; assumption) (Nat.le_refl _))
          | (go_at_call 19; (with_reducible refine Calls.mono (KJ.out _ (by go_split_ands; assumption)) ?_); rintro e wKJ ⟨rfl, hbKJ⟩; have hkB := bel_in hbKJ (by go_split_ands; assumption) (Nat.le_refl _))
          | (go_at_call 20; (with_reducible refine Calls.mono (KX.out _ (by go_split_ands; assumption)) ?_); rintro e wKX ⟨rfl, hbKX⟩; have hkB := bel_in hbKX (by go_split_ands; assumption) (Nat.le_refl _))
          | (go_at_call 20; (with_reducible refine Calls.mono (KY.out _ (by go_split_ands; assumption)) ?_); rintro e wKY ⟨rfl, hbKY⟩; have hkB := bel_in hbKY (by go_split_ands; assumption) (Nat.le_refl _))
          | (go_at_call 20; (with_reducible refine Calls.mono (KM.out _ (by go_split_ands; assumption)) ?_); rintro e wKM ⟨rfl, hbKM⟩; have hkB := bel_in hbKM (by go_split_ands; assumption) (Nat.le_refl _)))
      all_goals (go_wp2_with fail; go_meet; go_split_ands)
      all_goals (exact ⟨rfl, hkB⟩)
    case rest =>
      obtain ⟨rfl, hb⟩ := hcut
      clear KS KI KJ KY KM KX
      replace bA := bA.on hb
      replace bX := bX.on hb
      replace bY := bY.on hb
      replace bZ := bZ.on hb
      replace bQ := bQ.on hb
      replace bC := bC.on hb
      replace bM := bM.on hb
      replace HP := Lib.hid (HP.out.on hb)
      replace HX := Lib.hid (HX.out.on hb)
      replace HY := Lib.hid (HY.out.on hb)
      replace HZ := Lib.hid (HZ.out.on hb)
      replace HQ := Lib.hid (HQ.out.on hb)
      replace HCC := Lib.hid (HCC.out.on hb)
      replace HMM := Lib.hid (HMM.out.on hb)
      replace HB := Lib.hid (bel_end HB.out hb)
      clear hb bA bX bY bZ bM
      by_cases h0 : q = 0
      case neg =>
        have h0b : (q != 0) = true := by simpa using h0
        have bQ_0 := bQ.cell 0 rfl
        have bQ_1 := bQ.cell 1 rfl
        have bQ_l := bQ.lt
        have bC_0 := bC.cell 0 rfl
        have bC_1 := bC.cell 1 rfl
        have bC_l := bC.lt
        go_upto_region 14 with fail
        go_quiet (fail)
        go_wp2
        go_ret
        exact ⟨rfl, bel_drewN HB.out _⟩
      case pos =>
        obtain ⟨K, rfl, hK, hM, hV⟩ := FC.out h0
        subst h0
        clear FC
        have hn2 := HQ.out.n1
        have eM : M.length = K + 1 := by rw [hM, List.length_take]; omega
        have HI : Hid (Ints .i64 wc wc.heap.size a2 M) := Lib.hid (by rw [hM]; exact HQ.out.at_.dz.take _)
        obtain ⟨bz, oz, rfl, hBz, -⟩ := HQ.out.at_.dz (show 0 < zs2.length by omega)
        have KP : Hid (∀ w' : World, Below wc.heap.size wc w' → Calls Tryd.prog 18 #[.agg #[.slice ca M.length cc, .slice cb N.length cd]] w' fun e w'' => e = .returned (.bool true) ∧ Below w'.heap.size w' w'') := Lib.hid (fun w' hb => by have := ipr_any w' ca cb cc cd M N (HCC.out.prof.on hb); rwa [hV] at this)
        have KK : Hid (∀ w' : World, Below wc.heap.size wc w' → Calls Tryd.prog 21 #[.slice ca M.length cc, .slice (some ⟨bz, oz, none⟩) (K + 1) c2] w' fun e w'' => e = .returned (.bool true) ∧ Below w'.heap.size w' w'') := Lib.hid (fun w' hb => by have := lki_any w' w'.heap.size ca (some ⟨bz, oz, none⟩) cc c2 M (by omega) (HCC.out.prof.on hb).dz ((HI.out.below hb).more hb.size); rw [eM] at this ⊢; exact this.mono fun e w'' h => by obtain ⟨rfl, n, rfl⟩ := h; exact ⟨rfl, bel_drewN (Below.refl _ _) _⟩)
        have hcc2 := HC1.out
        clear hM hV eM HI
        have ew : IntKind.wrap .i64 ((K : Int) + 1) = (K : Int) + 1 := IntWalk.i64_in _ (by omega)
        have i1 : (0 : Int) ≤ (K : Int) + 1 := by omega
        have i2 : ((K : Int) + 1).toNat = K + 1 := by omega
        have i3 : (K : Int) + 1 ≤ (c2 : Int) := by omega
        have i5 : ¬ K + 1 = c2 ∨ K + 1 = c2 := by omega
        have at16 : ∀ (w' : World), Below wc.heap.size wc w' → w'.cell? ⟨w11.heap.size, 0, none⟩ = some (.slice (some ⟨bz, oz, none⟩) zs2.length c2) ∧ w'.cell? ⟨w11.heap.size, 1, none⟩ = some (.slice b2 ys2.length d2) ∧ w'.cell? ⟨w13.heap.size, 0, none⟩ = some (.slice ca M.length cc) ∧ w'.cell? ⟨w13.heap.size, 1, none⟩ = some (.slice cb N.length cd) ∧ Below wc.heap.size wc w' := fun _ H => ⟨(bQ.on H).cell 0 rfl, (bQ.on H).cell 1 rfl, (bC.on H).cell 0 rfl, (bC.on H).cell 1 rfl, H⟩
        have AT := Lib.hid at16
        clear at16 bQ bC
        go_upto_region 14 with fail
        go_region_held3 (fun w' => w'.cell? ⟨w11.heap.size, 0, none⟩ = some (.slice (some ⟨bz, oz, none⟩) zs2.length c2) ∧ w'.cell? ⟨w11.heap.size, 1, none⟩ = some (.slice b2 ys2.length d2) ∧ w'.cell? ⟨w13.heap.size, 0, none⟩ = some (.slice ca M.length cc) ∧ w'.cell? ⟨w13.heap.size, 1, none⟩ = some (.slice cb N.length cd) ∧ Below wc.heap.size wc w')
          (first
            | (exact AT.out _ (Below.refl _ wc).drew)
            | (go_split_ands; (with_reducible exact AT.out _ hkB)))
          (first
            | (go_at_call 18; (with_reducible refine Calls.mono (KP.out _ (by go_split_ands; assumption)) ?_); rintro e wKP ⟨rfl, hbKP⟩; have hkB := bel_in hbKP (by go_split_ands; assumption) (Nat.le_refl _))
            | (go_at_call 21; (with_reducible refine Calls.mono (KK.out _ (by go_split_ands; assumption)) ?_); rintro e wKK ⟨rfl, hbKK⟩; have hkB := bel_in hbKK (by go_split_ands; assumption) (Nat.le_refl _)))
        all_goals (go_wp2_with fail; go_ret; exact ⟨rfl, bel_end HB.out hkB⟩)
end Go.Proofs.YtcaekheghjnipabDoor
