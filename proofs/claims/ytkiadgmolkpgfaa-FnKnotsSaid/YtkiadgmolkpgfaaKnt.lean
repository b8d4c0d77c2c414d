/- The walk of the law of knots. -/
import Derived.Test.YtkiadgmolkpgfaaDKd
import Derived.Test.YtkiadgmolkpgfaaAxs
import Derived.Test.YtkiadgmolkpgfaaFst
import Derived.Test.YtkiadgmolkpgfaaGrd
import Derived.Deep.RegionHeld3
import Derived.Deep.DeepCutAuto
namespace Go.Proofs.Ytkiadgmolkpgfaa
open Go.ChangeShapes Go.WideShapes Go.ChangeAt Go.RowKit Go.Shelf Num
set_option linter.unusedVariables false
attribute [local go_sem ↓] Go.wp_at_zero Go.wp_at_succ
theorem mad_eq {a b p q : Int} (h : madT a b = (p, q, 0)) : ratB p q = true ∧ p * b = a * q := by
  by_cases hd : dcode a b = 0
  · rw [madT_ok hd] at h
    have h0 : (mkT a b).2.2 = 0 := by rw [h]
    have hr := (mkT_0 h0).1
    have hv := mkT_val h0
    rw [h] at hr hv
    exact ⟨hr, hv⟩
  · rw [madT_no rfl hd] at h
    simp only [Prod.mk.injEq] at h
    exact absurd h.2.2 hd
theorem ax_fact (zs ys : List Int) (h : axC zs ys = 0) : ∃ K : Nat, axV zs ys = (K : Int) ∧ K < ys.length ∧ ∀ j, j < ys.length → ys.getD K 0 ≤ ys.getD j 0 := by
  cases hv : prfB zs ys
  · unfold axC at h; rw [hv] at h; simp at h
  · have O := Okp.of hv
    have n2 := O.n2
    refine ⟨axN ys zs.length, by unfold axV; rw [hv]; rfl, ?_, fun j hj => axN_le ys zs.length j (by rw [← O.len]; exact hj)⟩
    have := axN_lt ys zs.length
    rw [O.len]; omega
theorem gr_fact (zs ys : List Int) (x p q : Int) (h : grT zs ys x = (p, q, 0)) : ∃ K : Nat, x = (K : Int) ∧ K + 1 < zs.length ∧ K + 1 < ys.length ∧ p * (zs.getD (K + 1) 0 - zs.getD K 0) = (ys.getD (K + 1) 0 - ys.getD K 0) * q ∧
    0 ≤ zs.getD K 0 ∧ zs.getD K 0 ≤ 1000000 ∧ 0 ≤ zs.getD (K + 1) 0 ∧ zs.getD (K + 1) 0 ≤ 1000000 ∧ 0 ≤ ys.getD K 0 ∧ ys.getD K 0 ≤ 1700000 ∧ 0 ≤ ys.getD (K + 1) 0 ∧ ys.getD (K + 1) 0 ≤ 1700000 := by
  cases hv : prfB zs ys
  · rw [grT_f hv] at h; simp at h
  · cases hh : hlB zs x
    · rw [grT_g hv hh] at h; simp at h
    · obtain ⟨K, rfl⟩ : ∃ K : Nat, x = (K : Int) := ⟨x.toNat, by have := hlB_t hh; omega⟩
      have hk := hlB_t hh
      have O := Okp.of hv
      rw [grT_t hv hh] at h
      exact ⟨K, rfl, by omega, by rw [O.len]; omega, (mad_eq h).2, O.lo _, O.hi _, O.lo _, O.hi _, O.sge _, O.shi _, O.sge _, O.shi _⟩
theorem fs_fact (zs ys : List Int) (x : Int) (h : cdT (prfB zs ys) (hkB zs x) = 0) : ∃ K : Nat, x = (K : Int) ∧ K < ys.length ∧ ∀ j, j ≤ K → ys.getD j 0 ≤ fsV zs ys x := by
  obtain ⟨hv, hh⟩ := cdT_0 h
  obtain ⟨K, rfl⟩ : ∃ K : Nat, x = (K : Int) := ⟨x.toNat, by have := hkB_t hh; omega⟩
  have hk := hkB_t hh
  have O := Okp.of hv
  refine ⟨K, rfl, by rw [O.len]; omega, fun j hj => ?_⟩
  rw [fsV_t hv hh]
  exact mxF_ge ys (K + 1) j (by omega)
theorem lr9_any (w : World) (p q a b : Int) (h : p * b = a * q) :
    Calls Try.prog 27 #[.agg #[.int .i64 p, .int .i64 q], .int .i64 a, .int .i64 b] w fun e w' => e = .returned (.bool true) ∧ Below w.heap.size w w' := by
  obtain ⟨t, ht⟩ : ∃ t, p * b = t := ⟨_, rfl⟩
  have ht2 : a * q = t := by rw [← h]; exact ht
  clear h
  go_enter Try.func27, Try.ntmps27
  go_wp2
  go_ret
  exact ⟨rfl, (by repeat (first | exact Below.refl _ _ | (refine Below.alloc ?_ (by simp <;> omega) _) | (refine Below.setCell ?_ (by simp <;> omega) _) | (refine Below.drew ?_) | (refine bel_drewN ?_ _)))⟩

set_option maxRecDepth 100000 in
set_option maxHeartbeats 4000000 in
theorem lknt (a0 : Option Addr) (len0 cap0 : Nat) (z0 : List Int) (w : World) (w0 : IsRow .u8 w a0 len0 cap0 z0) :
    Calls Try.prog 4 #[.slice a0 len0 cap0] w fun e w' => e = .returned (.bool true) ∧ Below w.heap.size w w' := by
  obtain ⟨hln, hc⟩ := Code8.of_row w0
  clear w0
  obtain ⟨cs, hcs⟩ : ∃ cs, z0.take len0 = cs := ⟨_, rfl⟩
  rw [hcs] at hln hc
  subst hln
  clear hcs
  have HC := Lib.hid hc
  clear hc
  by_cases hbig : 4096 < (cs.length : Int)
  · have HB0 : Hid (decide (4096 < (cs.length : Int)) = true) := Lib.hid (decide_eq_true hbig)
    clear hbig
    go_enter Try.func4, Try.ntmps4
    go_wp2_with fail
    refine (big_any _ _ _ _).mono ?_
    rw [HB0.out]
    rintro e w1 ⟨rfl, rfl⟩
    go_wp2
    go_ret
    exact ⟨rfl, Below.refl _ _⟩
  have HB0 : Hid (decide (4096 < (cs.length : Int)) = false) := Lib.hid (decide_eq_false hbig)
  clear hbig
  go_enter Try.func4, Try.ntmps4
  go_wp2_with fail
  refine (big_any _ _ _ _).mono ?_
  rw [HB0.out]
  rintro e w1 ⟨rfl, hw1⟩
  subst hw1
  go_wp2_with fail
  refine (dax_any _ _ _ cs HC.out).mono ?_
  rintro e w1 ⟨a1, b1, c1, d1, zs1, ys1, rfl, hp, hb⟩
  have HB := Lib.hid hb
  have HP1 := Lib.hid hp
  clear hp
  obtain ⟨k1, hk1⟩ : ∃ k, axV zs1 ys1 = k := ⟨_, rfl⟩
  obtain ⟨e1, he1⟩ : ∃ k, axC zs1 ys1 = k := ⟨_, rfl⟩
  have KA : Hid (∀ (w : World) (a b : Option Addr) (c d : Nat), Prof w w.heap.size a b zs1 ys1 → Calls Try.prog 19 #[.agg #[.slice a zs1.length c, .slice b ys1.length d]] w fun e w' => e = .returned (.tuple #[.int .i64 k1, .int .i64 e1]) ∧ Below w.heap.size w w') := Lib.hid (fun w a b c d hp => by have := iax_any w a b c d zs1 ys1 hp; rwa [hk1, he1] at this)
  have KB : Hid (∀ (w : World) (a b : Option Addr) (c d : Nat), Prof w w.heap.size a b zs1 ys1 → Calls Try.prog 20 #[.agg #[.slice a zs1.length c, .slice b ys1.length d]] w fun e w' => e = .returned (.tuple #[.int .i64 k1, .int .i64 e1]) ∧ Below w.heap.size w w') := Lib.hid (fun w a b c d hp => by have := sax_any w a b c d zs1 ys1 hp; rwa [hk1, he1] at this)
  have FA := Lib.hid (fun (h : e1 = 0) => by have := ax_fact zs1 ys1 (he1.trans h); rwa [hk1] at this)
  clear hk1 he1
  clear hb
  go_wp2_with fail
  obtain ⟨W2, hW⟩ : ∃ W, W = (w1.alloc (.cells #[.slice a1 zs1.length c1, .slice b1 ys1.length d1] 26)) := ⟨_, rfl⟩
  have hb : Below w1.heap.size w1 W2 := by rw [hW]; exact (by repeat (first | exact Below.refl _ _ | (refine Below.alloc ?_ (by simp <;> omega) _) | (refine Below.setCell ?_ (by simp <;> omega) _) | (refine Below.drew ?_) | (refine bel_drewN ?_ _)))
  have bA : Bk W2 (w1.heap.size) #[.slice a1 zs1.length c1, .slice b1 ys1.length d1] 26 := by rw [hW]; exact (Bk.new' (by simp))
  replace HP1 := Lib.hid (HP1.out.on hb)
  replace HB := Lib.hid (bel_end HB.out hb)
  rw [← hW]
  clear hW hb
  refine (KA.out _ _ _ _ _ HP1.out.at_).mono ?_
  rintro e w3 ⟨rfl, hb⟩
  replace bA := bA.on hb
  replace HP1 := Lib.hid (HP1.out.on hb)
  replace HB := Lib.hid (bel_end HB.out hb)
  clear hb
  have bA_0 := bA.cell 0 rfl
  have bA_1 := bA.cell 1 rfl
  have bA_l := bA.lt
  go_wp2_with fail
  refine (KB.out _ _ _ _ _ HP1.out.at_).mono ?_
  rintro e w4 ⟨rfl, hb⟩
  replace bA := bA.on hb
  replace HP1 := Lib.hid (HP1.out.on hb)
  replace HB := Lib.hid (bel_end HB.out hb)
  clear KA KB
  clear hb
  clear bA_0 bA_1 bA_l
  have bA_0 := bA.cell 0 rfl
  have bA_1 := bA.cell 1 rfl
  have bA_l := bA.lt
  go_wp2_with fail
  refine (dgr_any _ _ _ cs ((HC.out.below HB.out (Nat.le_refl _)).more HB.out.size)).mono ?_
  rintro e w5 ⟨a2, b2, c2, d2, zs2, ys2, x2, rfl, hp, hb⟩
  replace bA := bA.on hb
  replace HP1 := Lib.hid (HP1.out.on hb)
  replace HB := Lib.hid (bel_end HB.out hb)
  have HP2 := Lib.hid hp
  clear hp
  obtain ⟨⟨p, q, e2⟩, hg2⟩ : ∃ k, grT zs2 ys2 x2 = k := ⟨_, rfl⟩
  have KA : Hid (∀ (w : World) (a b : Option Addr) (c d : Nat), Prof w w.heap.size a b zs2 ys2 → Calls Try.prog 22 #[.agg #[.slice a zs2.length c, .slice b ys2.length d], .int .i64 x2] w fun e w' => e = .returned (.tuple #[.agg #[.int .i64 p, .int .i64 q], .int .i64 e2]) ∧ Below w.heap.size w w') := Lib.hid (fun w a b c d hp => by have := igrd_any w a b c d zs2 ys2 x2 hp; rwa [hg2] at this)
  have KB : Hid (∀ (w : World) (a b : Option Addr) (c d : Nat), Prof w w.heap.size a b zs2 ys2 → Calls Try.prog 23 #[.agg #[.slice a zs2.length c, .slice b ys2.length d], .int .i64 x2] w fun e w' => e = .returned (.tuple #[.agg #[.int .i64 p, .int .i64 q], .int .i64 e2]) ∧ Below w.heap.size w w') := Lib.hid (fun w a b c d hp => by have := sgrd_any w a b c d zs2 ys2 x2 hp; rwa [hg2] at this)
  have FG := Lib.hid (fun (h : e2 = 0) => gr_fact zs2 ys2 x2 p q (by rw [hg2, h]))
  clear hg2
  clear hb
  clear bA_0 bA_1 bA_l
  have bA_0 := bA.cell 0 rfl
  have bA_1 := bA.cell 1 rfl
  have bA_l := bA.lt
  go_wp2_with fail
  obtain ⟨W6, hW⟩ : ∃ W, W = (w5.alloc (.cells #[.slice a2 zs2.length c2, .slice b2 ys2.length d2] 26)) := ⟨_, rfl⟩
  have hb : Below w5.heap.size w5 W6 := by rw [hW]; exact (by repeat (first | exact Below.refl _ _ | (refine Below.alloc ?_ (by simp <;> omega) _) | (refine Below.setCell ?_ (by simp <;> omega) _) | (refine Below.drew ?_) | (refine bel_drewN ?_ _)))
  have bB : Bk W6 (w5.heap.size) #[.slice a2 zs2.length c2, .slice b2 ys2.length d2] 26 := by rw [hW]; exact (Bk.new' (by simp))
  replace bA := bA.on hb
  replace HP1 := Lib.hid (HP1.out.on hb)
  replace HP2 := Lib.hid (HP2.out.on hb)
  replace HB := Lib.hid (bel_end HB.out hb)
  rw [← hW]
  clear bA_0 bA_1 bA_l
  clear hW hb
  refine (KA.out _ _ _ _ _ HP2.out.at_).mono ?_
  rintro e w7 ⟨rfl, hb⟩
  replace bA := bA.on hb
  replace bB := bB.on hb
  replace HP1 := Lib.hid (HP1.out.on hb)
  replace HP2 := Lib.hid (HP2.out.on hb)
  replace HB := Lib.hid (bel_end HB.out hb)
  clear hb
  have bA_0 := bA.cell 0 rfl
  have bA_1 := bA.cell 1 rfl
  have bA_l := bA.lt
  have bB_0 := bB.cell 0 rfl
  have bB_1 := bB.cell 1 rfl
  have bB_l := bB.lt
  go_wp2_with fail
  obtain ⟨W8, hW⟩ : ∃ W, W = (w7.alloc (.cells #[.int .i64 p, .int .i64 q] 38)) := ⟨_, rfl⟩
  have hb : Below w7.heap.size w7 W8 := by rw [hW]; exact (by repeat (first | exact Below.refl _ _ | (refine Below.alloc ?_ (by simp <;> omega) _) | (refine Below.setCell ?_ (by simp <;> omega) _) | (refine Below.drew ?_) | (refine bel_drewN ?_ _)))
  have bG : Bk W8 (w7.heap.size) #[.int .i64 p, .int .i64 q] 38 := by rw [hW]; exact (Bk.new' (by simp))
  replace bA := bA.on hb
  replace bB := bB.on hb
  replace HP1 := Lib.hid (HP1.out.on hb)
  replace HP2 := Lib.hid (HP2.out.on hb)
  replace HB := Lib.hid (bel_end HB.out hb)
  rw [← hW]
  clear bA_0 bA_1 bA_l bB_0 bB_1 bB_l
  clear hW hb
  refine (KB.out _ _ _ _ _ HP2.out.at_).mono ?_
  rintro e w9 ⟨rfl, hb⟩
  replace bA := bA.on hb
  replace bB := bB.on hb
  replace bG := bG.on hb
  replace HP1 := Lib.hid (HP1.out.on hb)
  replace HP2 := Lib.hid (HP2.out.on hb)
  replace HB := Lib.hid (bel_end HB.out hb)
  clear KA KB
  clear hb
  have bA_0 := bA.cell 0 rfl
  have bA_1 := bA.cell 1 rfl
  have bA_l := bA.lt
  have bB_0 := bB.cell 0 rfl
  have bB_1 := bB.cell 1 rfl
  have bB_l := bB.lt
  have bG_0 := bG.cell 0 rfl
  have bG_1 := bG.cell 1 rfl
  have bG_l := bG.lt
  go_wp2_with fail
  obtain ⟨W10, hW⟩ : ∃ W, W = (w9.alloc (.cells #[.int .i64 p, .int .i64 q] 38)) := ⟨_, rfl⟩
  have hb : Below w9.heap.size w9 W10 := by rw [hW]; exact (by repeat (first | exact Below.refl _ _ | (refine Below.alloc ?_ (by simp <;> omega) _) | (refine Below.setCell ?_ (by simp <;> omega) _) | (refine Below.drew ?_) | (refine bel_drewN ?_ _)))
  have bH : Bk W10 (w9.heap.size) #[.int .i64 p, .int .i64 q] 38 := by rw [hW]; exact (Bk.new' (by simp))
  replace bA := bA.on hb
  replace bB := bB.on hb
  replace bG := bG.on hb
  replace HP1 := Lib.hid (HP1.out.on hb)
  replace HP2 := Lib.hid (HP2.out.on hb)
  replace HB := Lib.hid (bel_end HB.out hb)
  rw [← hW]
  clear bA_0 bA_1 bA_l bB_0 bB_1 bB_l bG_0 bG_1 bG_l
  clear hW hb
  refine (dfs_any _ _ _ cs ((HC.out.below HB.out (Nat.le_refl _)).more HB.out.size)).mono ?_
  rintro e w11 ⟨a3, b3, c3, d3, zs3, ys3, x3, rfl, hp, hb⟩
  replace bA := bA.on hb
  replace bB := bB.on hb
  replace bG := bG.on hb
  replace bH := bH.on hb
  replace HP1 := Lib.hid (HP1.out.on hb)
  replace HP2 := Lib.hid (HP2.out.on hb)
  replace HB := Lib.hid (bel_end HB.out hb)
  have HP3 := Lib.hid hp
  clear hp
  obtain ⟨m3, hm3⟩ : ∃ k, fsV zs3 ys3 x3 = k := ⟨_, rfl⟩
  obtain ⟨e3, he3⟩ : ∃ k, cdT (prfB zs3 ys3) (hkB zs3 x3) = k := ⟨_, rfl⟩
  have KA : Hid (∀ (w : World) (a b : Option Addr) (c d : Nat), Prof w w.heap.size a b zs3 ys3 → Calls Try.prog 25 #[.agg #[.slice a zs3.length c, .slice b ys3.length d], .int .i64 x3] w fun e w' => e = .returned (.tuple #[.int .i64 m3, .int .i64 e3]) ∧ Below w.heap.size w w') := Lib.hid (fun w a b c d hp => by have := ifs_any w a b c d zs3 ys3 x3 hp; rwa [hm3, he3] at this)
  have KB : Hid (∀ (w : World) (a b : Option Addr) (c d : Nat), Prof w w.heap.size a b zs3 ys3 → Calls Try.prog 26 #[.agg #[.slice a zs3.length c, .slice b ys3.length d], .int .i64 x3] w fun e w' => e = .returned (.tuple #[.int .i64 m3, .int .i64 e3]) ∧ Below w.heap.size w w') := Lib.hid (fun w a b c d hp => by have := sfs_any w a b c d zs3 ys3 x3 hp; rwa [hm3, he3] at this)
  have FF := Lib.hid (fun (h : e3 = 0) => by have := fs_fact zs3 ys3 x3 (he3.trans h); rwa [hm3] at this)
  clear hm3 he3
  clear hb
  have bA_0 := bA.cell 0 rfl
  have bA_1 := bA.cell 1 rfl
  have bA_l := bA.lt
  have bB_0 := bB.cell 0 rfl
  have bB_1 := bB.cell 1 rfl
  have bB_l := bB.lt
  have bG_0 := bG.cell 0 rfl
  have bG_1 := bG.cell 1 rfl
  have bG_l := bG.lt
  have bH_0 := bH.cell 0 rfl
  have bH_1 := bH.cell 1 rfl
  have bH_l := bH.lt
  go_wp2_with fail
  obtain ⟨W12, hW⟩ : ∃ W, W = (w11.alloc (.cells #[.slice a3 zs3.length c3, .slice b3 ys3.length d3] 26)) := ⟨_, rfl⟩
  have hb : Below w11.heap.size w11 W12 := by rw [hW]; exact (by repeat (first | exact Below.refl _ _ | (refine Below.alloc ?_ (by simp <;> omega) _) | (refine Below.setCell ?_ (by simp <;> omega) _) | (refine Below.drew ?_) | (refine bel_drewN ?_ _)))
  have bC : Bk W12 (w11.heap.size) #[.slice a3 zs3.length c3, .slice b3 ys3.length d3] 26 := by rw [hW]; exact (Bk.new' (by simp))
  replace bA := bA.on hb
  replace bB := bB.on hb
  replace bG := bG.on hb
  replace bH := bH.on hb
  replace HP1 := Lib.hid (HP1.out.on hb)
  replace HP2 := Lib.hid (HP2.out.on hb)
  replace HP3 := Lib.hid (HP3.out.on hb)
  replace HB := Lib.hid (bel_end HB.out hb)
  rw [← hW]
  clear bA_0 bA_1 bA_l bB_0 bB_1 bB_l bG_0 bG_1 bG_l bH_0 bH_1 bH_l
  clear hW hb
  refine (KA.out _ _ _ _ _ HP3.out.at_).mono ?_
  rintro e w13 ⟨rfl, hb⟩
  replace bA := bA.on hb
  replace bB := bB.on hb
  replace bG := bG.on hb
  replace bH := bH.on hb
  replace bC := bC.on hb
  replace HP1 := Lib.hid (HP1.out.on hb)
  replace HP2 := Lib.hid (HP2.out.on hb)
  replace HP3 := Lib.hid (HP3.out.on hb)
  replace HB := Lib.hid (bel_end HB.out hb)
  clear hb
  have bA_0 := bA.cell 0 rfl
  have bA_1 := bA.cell 1 rfl
  have bA_l := bA.lt
  have bB_0 := bB.cell 0 rfl
  have bB_1 := bB.cell 1 rfl
  have bB_l := bB.lt
  have bG_0 := bG.cell 0 rfl
  have bG_1 := bG.cell 1 rfl
  have bG_l := bG.lt
  have bH_0 := bH.cell 0 rfl
  have bH_1 := bH.cell 1 rfl
  have bH_l := bH.lt
  have bC_0 := bC.cell 0 rfl
  have bC_1 := bC.cell 1 rfl
  have bC_l := bC.lt
  go_wp2_with fail
  refine (KB.out _ _ _ _ _ HP3.out.at_).mono ?_
  rintro e w14 ⟨rfl, hb⟩
  replace bA := bA.on hb
  replace bB := bB.on hb
  replace bG := bG.on hb
  replace bH := bH.on hb
  replace bC := bC.on hb
  replace HP1 := Lib.hid (HP1.out.on hb)
  replace HP2 := Lib.hid (HP2.out.on hb)
  replace HP3 := Lib.hid (HP3.out.on hb)
  replace HB := Lib.hid (bel_end HB.out hb)
  clear KA KB
  clear hb
  clear bA_0 bA_1 bA_l bB_0 bB_1 bB_l bG_0 bG_1 bG_l bH_0 bH_1 bH_l bC_0 bC_1 bC_l
  have bA_0 := bA.cell 0 rfl
  have bA_1 := bA.cell 1 rfl
  have bA_l := bA.lt
  have bB_0 := bB.cell 0 rfl
  have bB_1 := bB.cell 1 rfl
  have bB_l := bB.lt
  have bG_0 := bG.cell 0 rfl
  have bG_1 := bG.cell 1 rfl
  have bG_l := bG.lt
  have bH_0 := bH.cell 0 rfl
  have bH_1 := bH.cell 1 rfl
  have bH_l := bH.lt
  have bC_0 := bC.cell 0 rfl
  have bC_1 := bC.cell 1 rfl
  have bC_l := bC.lt
  have hn1 := HP1.out.n2
  have hn2 := HP2.out.n2
  have hn2b := HP2.out.n1
  have hn3 := HP3.out.n2
  go_upto_region 14 with fail
  go_cut [128] (fun s wx => s = .bool false ∧ Below w14.heap.size w14 wx)
  case first =>
    by_cases h2 : e2 = 0
    case pos =>
      obtain ⟨K, rfl, hk1, hk2, heq, z0, z1, z2, z3, y0, y1, y2, y3⟩ := FG.out h2
      subst h2
      obtain ⟨bz, oz, rfl, hBz, hcz⟩ := HP2.out.at_.dz (show 0 < zs2.length by omega)
      obtain ⟨by_, oy, rfl, hBy, hcy⟩ := HP2.out.at_.sy (show 0 < ys2.length by omega)
      have u0 := hcz K (by omega)
      have u1 := hcz (K + 1) hk1
      have v0 := hcy K (by omega)
      have v1 := hcy (K + 1) hk2
      clear hcz hcy
      obtain ⟨Z0, hZ0⟩ : ∃ z, zs2.getD K 0 = z := ⟨_, rfl⟩
      obtain ⟨Z1, hZ1⟩ : ∃ z, zs2.getD (K + 1) 0 = z := ⟨_, rfl⟩
      obtain ⟨Y0, hY0⟩ : ∃ z, ys2.getD K 0 = z := ⟨_, rfl⟩
      obtain ⟨Y1, hY1⟩ : ∃ z, ys2.getD (K + 1) 0 = z := ⟨_, rfl⟩
      rw [hZ0] at u0 z0 z1 heq
      rw [hZ1] at u1 z2 z3 heq
      rw [hY0] at v0 y0 y1 heq
      rw [hY1] at v1 y2 y3 heq
      clear hZ0 hZ1 hY0 hY1
      have ew1 : IntKind.wrap .i64 (Z1 - Z0) = Z1 - Z0 := IntWalk.i64_in _ (by omega)
      have ew2 : IntKind.wrap .i64 (Y1 - Y0) = Y1 - Y0 := IntWalk.i64_in _ (by omega)
      have KL : Hid (∀ w : World, Calls Try.prog 27 #[.agg #[.int .i64 p, .int .i64 q], .int .i64 (IntKind.wrap .i64 (Y1 - Y0)), .int .i64 (IntKind.wrap .i64 (Z1 - Z0))] w fun e w' => e = .returned (.bool true) ∧ Below w.heap.size w w') := Lib.hid (fun w => by rw [ew1, ew2]; exact lr9_any w p q _ _ heq)
      have KM : Hid (∀ w : World, Calls Try.prog 27 #[.agg #[.int .i64 p, .int .i64 q], .int .i64 (Y1 - Y0), .int .i64 (Z1 - Z0)] w fun e w' => e = .returned (.bool true) ∧ Below w.heap.size w w') := Lib.hid (fun w => lr9_any w p q _ _ heq)
      clear ew1 ew2 heq
      have ew : IntKind.wrap .i64 ((K : Int) + 1) = (K : Int) + 1 := IntWalk.i64_in _ (by omega)
      have q0 : (0 : Int) ≤ (K : Int) + 1 := by omega
      have q1 : ((K : Int) + 1).toNat = K + 1 := by omega
      have q2 : (K : Int) + 1 < (zs2.length : Int) := by omega
      have q3 : (K : Int) + 1 < (ys2.length : Int) := by omega
      have q4 : K + 1 < ys2.length := hk2
      have q5 : K < zs2.length := by omega
      have q6 : K < ys2.length := by omega
      go_region_held3 (fun w' => w'.cell? ⟨w5.heap.size, 0, none⟩ = some (.slice (some ⟨bz, oz, none⟩) zs2.length c2) ∧ w'.cell? ⟨w5.heap.size, 1, none⟩ = some (.slice (some ⟨by_, oy, none⟩) ys2.length d2) ∧ w'.cell? ⟨w7.heap.size, 0, none⟩ = some (.int .i64 p) ∧ w'.cell? ⟨w7.heap.size, 1, none⟩ = some (.int .i64 q) ∧ w'.cell? ⟨bz, oz + K, none⟩ = some (.int .i64 Z0) ∧ w'.cell? ⟨bz, oz + (K + 1), none⟩ = some (.int .i64 Z1) ∧ w'.cell? ⟨by_, oy + K, none⟩ = some (.int .i64 Y0) ∧ w'.cell? ⟨by_, oy + (K + 1), none⟩ = some (.int .i64 Y1) ∧ Below w14.heap.size w14 w')
        (first | (exact ⟨bB_0, bB_1, bG_0, bG_1, u0, u1, v0, v1, (Below.refl _ w14).drew⟩) | (exact ⟨kc1 (show w14.drew.cell? _ = _ from bB_0) hb, kc1 (show w14.drew.cell? _ = _ from bB_1) hb, kc1 (show w14.drew.cell? _ = _ from bG_0) hb, kc1 (show w14.drew.cell? _ = _ from bG_1) hb, kc1 (show w14.drew.cell? _ = _ from u0) hb, kc1 (show w14.drew.cell? _ = _ from u1) hb, kc1 (show w14.drew.cell? _ = _ from v0) hb, kc1 (show w14.drew.cell? _ = _ from v1) hb, (Below.refl _ w14).drew.trans hb⟩))
        (first | (go_at_call 27; (with_reducible refine Calls.mono (KL.out _) ?_); rintro e wl ⟨rfl, hb⟩) | (go_at_call 27; (with_reducible refine Calls.mono (KM.out _) ?_); rintro e wl ⟨rfl, hb⟩))
      all_goals (first | go_meet | (go_wp2_with fail; go_meet))
      all_goals (first | exact ⟨rfl, (Below.refl _ _).drew.trans hb⟩ | (trace_state; fail))
    case neg =>
      have h2f : (e2 == 0) = false := by simpa using h2
      go_quiet (fail)
      all_goals (first | go_meet | (go_wp2_with fail; go_meet))
      all_goals (exact ⟨rfl, bel_drewN (Below.refl _ _) _⟩)
  case rest =>
    obtain ⟨rfl, hb⟩ := hcut
    clear bA_0 bA_1 bA_l bB_0 bB_1 bB_l bG_0 bG_1 bG_l bH_0 bH_1 bH_l bC_0 bC_1 bC_l
    replace bA := bA.on hb
    replace bB := bB.on hb
    replace bG := bG.on hb
    replace bH := bH.on hb
    replace bC := bC.on hb
    replace HP1 := Lib.hid (HP1.out.on hb)
    replace HP2 := Lib.hid (HP2.out.on hb)
    replace HP3 := Lib.hid (HP3.out.on hb)
    replace HB := Lib.hid (bel_end HB.out hb)
    clear hb
    have bA_0 := bA.cell 0 rfl
    have bA_1 := bA.cell 1 rfl
    have bA_l := bA.lt
    have bB_0 := bB.cell 0 rfl
    have bB_1 := bB.cell 1 rfl
    have bB_l := bB.lt
    have bG_0 := bG.cell 0 rfl
    have bG_1 := bG.cell 1 rfl
    have bG_l := bG.lt
    have bH_0 := bH.cell 0 rfl
    have bH_1 := bH.cell 1 rfl
    have bH_l := bH.lt
    have bC_0 := bC.cell 0 rfl
    have bC_1 := bC.cell 1 rfl
    have bC_l := bC.lt
    by_cases h3 : e3 = 0
    case pos =>
      obtain ⟨K3, rfl, hK3, hmax⟩ := FF.out h3
      subst h3
      obtain ⟨bx, ox, rfl, hBx, hcx⟩ := HP3.out.at_.sy (show 0 < ys3.length by omega)
      have HX := Lib.hid hmax
      have HCX := Lib.hid hcx
      clear hmax hcx
      go_wp2_with fail
      go_loop [20] (fun i => ∃ j : Nat, j ≤ K3 + 1 ∧ i = .int .i64 j) (fun i => K3 + 1 - (intOf i).toNat)
      case atStart => exact ⟨0, by omega, rfl⟩
      case round =>
        obtain ⟨j, hj, rfl⟩ := hrel
        by_cases hlj : j ≤ K3
        case pos =>
          have x3 := HCX.out j (by omega)
          have hle := HX.out j hlj
          obtain ⟨y, hy⟩ : ∃ y, ys3.getD j 0 = y := ⟨_, rfl⟩
          rw [hy] at hle x3
          clear hy
          have q5 : (j : Int) < (ys3.length : Int) := by omega
          go_wp2
          go_round
          (case rel => exact ⟨j + 1, by omega, by go_num⟩)
          (case measure => simp [intOf]; omega)
        case neg =>
          have hj2 : ¬ (j : Int) ≤ (K3 : Int) := by omega
          by_cases h1 : e1 = 0
          case pos =>
            obtain ⟨K1, rfl, hK1, hmin⟩ := FA.out h1
            subst h1
            obtain ⟨bz, oz, rfl, hBz, hcz⟩ := HP1.out.at_.sy (show 0 < ys1.length by omega)
            have HM := Lib.hid hmin
            have hc0 := hcz K1 hK1
            have HZ := Lib.hid hcz
            clear hmin hcz
            obtain ⟨m, hm⟩ : ∃ m, ys1.getD K1 0 = m := ⟨_, rfl⟩
            rw [hm] at hc0
            have HMM := Lib.hid hm
            clear hm
            have q1 : (0 : Int) ≤ (K1 : Int) := by omega
            have q2 : (K1 : Int) < (ys1.length : Int) := by omega
            go_wp2_with fail
            go_loopw [21] (fun i wr => ∃ j : Nat, (∃ n, wr = wc.drewN n) ∧ j ≤ ys1.length ∧ i = .int .i64 j) (fun i _ => ys1.length - (intOf i).toNat)
            case atStart => exact ⟨0, ⟨0, rfl⟩, by omega, rfl⟩
            case round =>
              obtain ⟨j, ⟨n, rfl⟩, hj, rfl⟩ := hrel
              by_cases hlj : j < ys1.length
              · have g3 := HZ.out j hlj
                have q3 : (0 : Int) ≤ (j : Int) := by omega
                have q4 : (j : Int) < (ys1.length : Int) := by omega
                have hle := HM.out j hlj
                obtain ⟨y, hy⟩ : ∃ y, ys1.getD j 0 = y := ⟨_, rfl⟩
                rw [HMM.out, hy] at hle
                rw [hy] at g3
                clear hy
                go_wp2
                go_quiet (fail)
                go_wp2
                go_roundw
                (case rel => exact ⟨j + 1, ⟨_, by first | rfl | exact World.drewN_drewN _ _ _⟩, by omega, by go_num⟩)
                (case measure => simp [intOf]; omega)
              · obtain rfl : j = ys1.length := by omega
                go_wp2
                go_ret
                exact ⟨rfl, bel_drewN HB.out _⟩
          case neg =>
            have h1f : (e1 == 0) = false := by simpa using h1
            go_wp2_with fail
            go_loop [21] (fun i => i = .int .i64 0) (fun _ => 0)
            case atStart => rfl
            case round =>
              obtain rfl := hrel
              go_wp2
              go_ret
              exact ⟨rfl, HB.out⟩
    case neg =>
      have h3f : (e3 == 0) = false := by simpa using h3
      go_wp2_with fail
      go_loop [20] (fun i => i = .int .i64 0) (fun _ => 0)
      case atStart => rfl
      case round =>
        obtain rfl := hrel
        by_cases h1 : e1 = 0
        case pos =>
          obtain ⟨K1, rfl, hK1, hmin⟩ := FA.out h1
          subst h1
          obtain ⟨bz, oz, rfl, hBz, hcz⟩ := HP1.out.at_.sy (show 0 < ys1.length by omega)
          have HM := Lib.hid hmin
          have hc0 := hcz K1 hK1
          have HZ := Lib.hid hcz
          clear hmin hcz
          obtain ⟨m, hm⟩ : ∃ m, ys1.getD K1 0 = m := ⟨_, rfl⟩
          rw [hm] at hc0
          have HMM := Lib.hid hm
          clear hm
          have q1 : (0 : Int) ≤ (K1 : Int) := by omega
          have q2 : (K1 : Int) < (ys1.length : Int) := by omega
          go_wp2_with fail
          go_loopw [21] (fun i wr => ∃ j : Nat, (∃ n, wr = wc.drewN n) ∧ j ≤ ys1.length ∧ i = .int .i64 j) (fun i _ => ys1.length - (intOf i).toNat)
          case atStart => exact ⟨0, ⟨0, rfl⟩, by omega, rfl⟩
          case round =>
            obtain ⟨j, ⟨n, rfl⟩, hj, rfl⟩ := hrel
            by_cases hlj : j < ys1.length
            · have g3 := HZ.out j hlj
              have q3 : (0 : Int) ≤ (j : Int) := by omega
              have q4 : (j : Int) < (ys1.length : Int) := by omega
              have hle := HM.out j hlj
              obtain ⟨y, hy⟩ : ∃ y, ys1.getD j 0 = y := ⟨_, rfl⟩
              rw [HMM.out, hy] at hle
              rw [hy] at g3
              clear hy
              go_wp2
              go_quiet (fail)
              go_wp2
              go_roundw
              (case rel => exact ⟨j + 1, ⟨_, by first | rfl | exact World.drewN_drewN _ _ _⟩, by omega, by go_num⟩)
              (case measure => simp [intOf]; omega)
            · obtain rfl : j = ys1.length := by omega
              go_wp2
              go_ret
              exact ⟨rfl, bel_drewN HB.out _⟩
        case neg =>
          have h1f : (e1 == 0) = false := by simpa using h1
          go_wp2_with fail
          go_loop [21] (fun i => i = .int .i64 0) (fun _ => 0)
          case atStart => rfl
          case round =>
            obtain rfl := hrel
            go_wp2
            go_ret
            exact ⟨rfl, HB.out⟩
end Go.Proofs.Ytkiadgmolkpgfaa
