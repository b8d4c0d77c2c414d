/- The walk of the law of a ray's steps. -/
import Derived.Test.YtaaklnabomhleaaDRs
import Derived.Test.YtaaklnabomhleaaRsF
import Derived.Test.YtaaklnabomhleaaRyR
import Derived.Test.YtaaklnabomhleaaRyV
import Derived.Deep.RegionHeld3
import Derived.Deep.DeepCutAuto
import Derived.Deep.RegionWith
import Derived.BigQuiet
import Derived.Handy
import Derived.Outline
namespace Go.Proofs.Ytaaklnabomhleaa
open Go.ChangeShapes Go.WideShapes Go.ChangeAt Go.RowKit Go.Shelf Num
set_option linter.unusedVariables false
attribute [local go_sem ↓] Go.wp_at_zero Go.wp_at_succ
theorem eq_rsx (w : World) (a c d : Int) (b : Bool) : (Op.equal 61 (.agg #[.int .i64 a, .bool b, .int .i64 c, .int .i64 d]) (.agg #[.int .i64 a, .bool b, .int .i64 c, .int .i64 d])).run Try.prog w = .ok true w := by
  show (Op.equalIn 10000 61 (.agg #[.int .i64 a, .bool b, .int .i64 c, .int .i64 d]) (.agg #[.int .i64 a, .bool b, .int .i64 c, .int .i64 d])).run Try.prog w = _
  cases b <;> simp [go_sem]

set_option maxRecDepth 100000 in
set_option maxHeartbeats 16000000 in
theorem lrst (a0 : Option Addr) (len0 cap0 : Nat) (z0 : List Int) (w : World) (w0 : IsRow .u8 w a0 len0 cap0 z0) :
    Calls Try.prog 10 #[.slice a0 len0 cap0] w fun e w' => e = .returned (.bool true) ∧ Below w.heap.size w w' := by
  obtain ⟨hln, hc⟩ := Code8.of_row w0
  clear w0
  obtain ⟨cs, hcs⟩ : ∃ cs, z0.take len0 = cs := ⟨_, rfl⟩
  rw [hcs] at hln hc
  subst hln
  clear hcs
  have HC := Lib.hid hc
  clear hc
  by_cases hbig : 4096 < (cs.length : Int)
  · have HB0 : Hid (decide (4096 < (cs.length : Int)) = true) := Lib.hid (decide_eq_true hbig)
    clear hbig
    go_enter Try.func10, Try.ntmps10
    go_wp2_with fail
    refine (big_any _ _ _ _).mono ?_
    rw [HB0.out]
    rintro e w1 ⟨rfl, rfl⟩
    go_wp2
    go_ret
    exact ⟨rfl, Below.refl _ _⟩
  have HB0 : Hid (decide (4096 < (cs.length : Int)) = false) := Lib.hid (decide_eq_false hbig)
  clear hbig
  go_enter Try.func10, Try.ntmps10
  go_wp2_with fail
  refine (big_any _ _ _ _).mono ?_
  rw [HB0.out]
  rintro e w1 ⟨rfl, hw1⟩
  subst hw1
  go_wp2_with fail
  refine (dsr_any _ _ _ cs HC.out).mono ?_
  rintro e w1 ⟨aP, bP, cP, dP, zs, ys, sr, c, s, h, K, dn, lo, hi, rfl, hp, hb⟩
  have HB := Lib.hid hb
  have HP := Lib.hid (hp.n (Nat.le_refl _))
  clear hp
  obtain ⟨⟨K2, d2, l2, h2, ev, qq⟩, hT⟩ : ∃ U, sryT zs ys sr c s h K dn lo hi = U := ⟨_, rfl⟩
  obtain ⟨eb, heb⟩ : ∃ U, (eosT zs ys sr c s h K lo hi == 0) = U := ⟨_, rfl⟩
  have KT : Hid (∀ (w : World) (a b : Option Addr) (c_ d_ : Nat), Prof w w.heap.size a b zs ys → Calls Try.prog 48 #[.agg #[.slice a zs.length c_, .slice b ys.length d_], .int .i64 sr, .agg #[.int .i64 c, .int .i64 s, .int .i64 h], .agg #[.int .i64 K, .bool dn, .int .i64 lo, .int .i64 hi]] w fun e w' => e = .returned (.tuple #[.agg #[.int .i64 K2, .bool d2, .int .i64 l2, .int .i64 h2], .int .i64 ev, .int .i64 qq]) ∧ Below w.heap.size w w') := Lib.hid (fun w a b c_ d_ hp => by have := isr_any w a b c_ d_ zs ys sr c s h K lo hi dn hp; rw [hT] at this; exact this)
  have KU : Hid (∀ (w : World) (a b : Option Addr) (c_ d_ : Nat), Prof w w.heap.size a b zs ys → Calls Try.prog 51 #[.agg #[.slice a zs.length c_, .slice b ys.length d_], .int .i64 sr, .agg #[.int .i64 c, .int .i64 s, .int .i64 h], .agg #[.int .i64 K, .bool dn, .int .i64 lo, .int .i64 hi]] w fun e w' => e = .returned (.tuple #[.agg #[.int .i64 K2, .bool d2, .int .i64 l2, .int .i64 h2], .int .i64 ev, .int .i64 qq]) ∧ Below w.heap.size w w') := Lib.hid (fun w a b c_ d_ hp => by have := ssr_any w a b c_ d_ zs ys sr c s h K lo hi dn hp; rw [hT] at this; exact this)
  have KI : Hid (∀ (w : World) (a b : Option Addr) (c_ d_ : Nat), Prof w w.heap.size a b zs ys → Calls Try.prog 49 #[.agg #[.slice a zs.length c_, .slice b ys.length d_], .int .i64 sr, .agg #[.int .i64 c, .int .i64 s, .int .i64 h], .agg #[.int .i64 K, .bool dn, .int .i64 lo, .int .i64 hi]] w fun e w' => e = .returned (.bool eb) ∧ Below w.heap.size w w') := Lib.hid (fun w a b c_ d_ hp => by have := irs_any w a b c_ d_ zs ys sr c s h K lo hi dn hp; rw [heb] at this; exact this)
  have KJ : Hid (∀ (w : World) (a b : Option Addr) (c_ d_ : Nat), Prof w w.heap.size a b zs ys → Calls Try.prog 54 #[.agg #[.slice a zs.length c_, .slice b ys.length d_], .int .i64 sr, .agg #[.int .i64 c, .int .i64 s, .int .i64 h], .agg #[.int .i64 K, .bool dn, .int .i64 lo, .int .i64 hi]] w fun e w' => e = .returned (.bool eb) ∧ Below w.heap.size w w') := Lib.hid (fun w a b c_ d_ hp => by have := sirs_any w a b c_ d_ zs ys sr c s h K lo hi dn hp; rw [heb] at this; exact this)
  have HT := Lib.hid hT
  clear hT heb
  clear hb
  go_wp2_with fail
  obtain ⟨W2, hW⟩ : ∃ W, W = (((w1.alloc (.cells #[.slice aP zs.length cP, .slice bP ys.length dP] 51)).alloc (.cells #[.int .i64 c, .int .i64 s, .int .i64 h] 32)).alloc (.cells #[.int .i64 K, .bool dn, .int .i64 lo, .int .i64 hi] 61)) := ⟨_, rfl⟩
  have hb : Below w1.heap.size w1 W2 := by rw [hW]; exact (by repeat (first | exact Below.refl _ _ | (refine Below.alloc ?_ (by simp <;> omega) _) | (refine Below.setCell ?_ (by simp <;> omega) _) | (refine Below.drew ?_) | (refine bel_drewN ?_ _)))
  have bA : Bk W2 (w1.heap.size) #[.slice aP zs.length cP, .slice bP ys.length dP] 51 := by rw [hW]; exact (((Bk.new' (by simp)).alloc _).alloc _)
  have bD : Bk W2 (w1.heap.size + 1) #[.int .i64 c, .int .i64 s, .int .i64 h] 32 := by rw [hW]; exact ((Bk.new' (by simp)).alloc _)
  have bS : Bk W2 (w1.heap.size + 1 + 1) #[.int .i64 K, .bool dn, .int .i64 lo, .int .i64 hi] 61 := by rw [hW]; exact (Bk.new' (by simp))
  replace HP := Lib.hid (HP.out.on hb)
  replace HB := Lib.hid (bel_end HB.out hb)
  rw [← hW]
  clear hW hb
  have bA_0 := bA.cell 0 rfl
  have bA_1 := bA.cell 1 rfl
  have bA_l := bA.lt
  have bD_0 := bD.cell 0 rfl
  have bD_1 := bD.cell 1 rfl
  have bD_2 := bD.cell 2 rfl
  have bD_l := bD.lt
  have bS_0 := bS.cell 0 rfl
  have bS_1 := bS.cell 1 rfl
  have bS_2 := bS.cell 2 rfl
  have bS_3 := bS.cell 3 rfl
  have bS_l := bS.lt
  refine (KT.out _ _ _ _ _ HP.out.at_).mono ?_
  rintro e w3 ⟨rfl, hb⟩
  replace bA := bA.on hb
  replace bD := bD.on hb
  replace bS := bS.on hb
  replace HP := Lib.hid (HP.out.on hb)
  replace HB := Lib.hid (bel_end HB.out hb)
  clear hb
  clear bA_0 bA_1 bA_l bD_0 bD_1 bD_2 bD_l bS_0 bS_1 bS_2 bS_3 bS_l
  have bA_0 := bA.cell 0 rfl
  have bA_1 := bA.cell 1 rfl
  have bA_l := bA.lt
  have bD_0 := bD.cell 0 rfl
  have bD_1 := bD.cell 1 rfl
  have bD_2 := bD.cell 2 rfl
  have bD_l := bD.lt
  have bS_0 := bS.cell 0 rfl
  have bS_1 := bS.cell 1 rfl
  have bS_2 := bS.cell 2 rfl
  have bS_3 := bS.cell 3 rfl
  have bS_l := bS.lt
  go_wp2_with fail
  obtain ⟨W4, hW⟩ : ∃ W, W = (w3.alloc (.cells #[.int .i64 K2, .bool d2, .int .i64 l2, .int .i64 h2] 61)) := ⟨_, rfl⟩
  have hb : Below w3.heap.size w3 W4 := by rw [hW]; exact (by repeat (first | exact Below.refl _ _ | (refine Below.alloc ?_ (by simp <;> omega) _) | (refine Below.setCell ?_ (by simp <;> omega) _) | (refine Below.drew ?_) | (refine bel_drewN ?_ _)))
  have bX : Bk W4 (w3.heap.size) #[.int .i64 K2, .bool d2, .int .i64 l2, .int .i64 h2] 61 := by rw [hW]; exact (Bk.new' (by simp))
  replace bA := bA.on hb
  replace bD := bD.on hb
  replace bS := bS.on hb
  replace HP := Lib.hid (HP.out.on hb)
  replace HB := Lib.hid (bel_end HB.out hb)
  rw [← hW]
  clear bA_0 bA_1 bA_l bD_0 bD_1 bD_2 bD_l bS_0 bS_1 bS_2 bS_3 bS_l
  clear hW hb
  have bA_0 := bA.cell 0 rfl
  have bA_1 := bA.cell 1 rfl
  have bA_l := bA.lt
  have bD_0 := bD.cell 0 rfl
  have bD_1 := bD.cell 1 rfl
  have bD_2 := bD.cell 2 rfl
  have bD_l := bD.lt
  have bS_0 := bS.cell 0 rfl
  have bS_1 := bS.cell 1 rfl
  have bS_2 := bS.cell 2 rfl
  have bS_3 := bS.cell 3 rfl
  have bS_l := bS.lt
  have bX_0 := bX.cell 0 rfl
  have bX_1 := bX.cell 1 rfl
  have bX_2 := bX.cell 2 rfl
  have bX_3 := bX.cell 3 rfl
  have bX_l := bX.lt
  refine (KU.out _ _ _ _ _ HP.out.at_).mono ?_
  rintro e w5 ⟨rfl, hb⟩
  replace bA := bA.on hb
  replace bD := bD.on hb
  replace bS := bS.on hb
  replace bX := bX.on hb
  replace HP := Lib.hid (HP.out.on hb)
  replace HB := Lib.hid (bel_end HB.out hb)
  clear hb
  clear bA_0 bA_1 bA_l bD_0 bD_1 bD_2 bD_l bS_0 bS_1 bS_2 bS_3 bS_l bX_0 bX_1 bX_2 bX_3 bX_l
  have bA_0 := bA.cell 0 rfl
  have bA_1 := bA.cell 1 rfl
  have bA_l := bA.lt
  have bD_0 := bD.cell 0 rfl
  have bD_1 := bD.cell 1 rfl
  have bD_2 := bD.cell 2 rfl
  have bD_l := bD.lt
  have bS_0 := bS.cell 0 rfl
  have bS_1 := bS.cell 1 rfl
  have bS_2 := bS.cell 2 rfl
  have bS_3 := bS.cell 3 rfl
  have bS_l := bS.lt
  have bX_0 := bX.cell 0 rfl
  have bX_1 := bX.cell 1 rfl
  have bX_2 := bX.cell 2 rfl
  have bX_3 := bX.cell 3 rfl
  have bX_l := bX.lt
  go_wp2_with fail
  obtain ⟨W6, hW⟩ : ∃ W, W = (w5.alloc (.cells #[.int .i64 K2, .bool d2, .int .i64 l2, .int .i64 h2] 61)) := ⟨_, rfl⟩
  have hb : Below w5.heap.size w5 W6 := by rw [hW]; exact (by repeat (first | exact Below.refl _ _ | (refine Below.alloc ?_ (by simp <;> omega) _) | (refine Below.setCell ?_ (by simp <;> omega) _) | (refine Below.drew ?_) | (refine bel_drewN ?_ _)))
  have bY : Bk W6 (w5.heap.size) #[.int .i64 K2, .bool d2, .int .i64 l2, .int .i64 h2] 61 := by rw [hW]; exact (Bk.new' (by simp))
  replace bA := bA.on hb
  replace bD := bD.on hb
  replace bS := bS.on hb
  replace bX := bX.on hb
  replace HP := Lib.hid (HP.out.on hb)
  replace HB := Lib.hid (bel_end HB.out hb)
  rw [← hW]
  clear bA_0 bA_1 bA_l bD_0 bD_1 bD_2 bD_l bS_0 bS_1 bS_2 bS_3 bS_l bX_0 bX_1 bX_2 bX_3 bX_l
  clear hW hb
  refine (dff_any _ _ _ cs ((HC.out.below HB.out (Nat.le_refl _)).more HB.out.size)).mono ?_
  rintro e w7 ⟨aQ, bQ, cQ, dQ, xs, vs, so, c3, s3, h3, rfl, hq, hb⟩
  replace bA := bA.on hb
  replace bD := bD.on hb
  replace bS := bS.on hb
  replace bX := bX.on hb
  replace bY := bY.on hb
  replace HP := Lib.hid (HP.out.on hb)
  replace HB := Lib.hid (bel_end HB.out hb)
  have HQ := Lib.hid hq
  clear hq
  obtain ⟨⟨f0, f1, f2, f3, q2⟩, hF⟩ : ∃ U, fsT xs vs so c3 s3 h3 = U := ⟨_, rfl⟩
  have KF : Hid (∀ (w : World) (a b : Option Addr) (c_ d_ : Nat), Prof w w.heap.size a b xs vs → Calls Try.prog 47 #[.agg #[.slice a xs.length c_, .slice b vs.length d_], .int .i64 so, .agg #[.int .i64 c3, .int .i64 s3, .int .i64 h3]] w fun e w' => e = .returned (.tuple #[.agg #[.int .i64 f0, .bool f1, .int .i64 f2, .int .i64 f3], .int .i64 q2]) ∧ Below w.heap.size w w') := Lib.hid (fun w a b c_ d_ hp => by have := ifs_st w a b c_ d_ xs vs so c3 s3 h3 hp; rw [hF] at this; exact this)
  have KG : Hid (∀ (w : World) (a b : Option Addr) (c_ d_ : Nat), Prof w w.heap.size a b xs vs → Calls Try.prog 53 #[.agg #[.slice a xs.length c_, .slice b vs.length d_], .int .i64 so, .agg #[.int .i64 c3, .int .i64 s3, .int .i64 h3]] w fun e w' => e = .returned (.tuple #[.agg #[.int .i64 f0, .bool f1, .int .i64 f2, .int .i64 f3], .int .i64 q2]) ∧ Below w.heap.size w w') := Lib.hid (fun w a b c_ d_ hp => by have := sfs_st w a b c_ d_ xs vs so c3 s3 h3 hp; rw [hF] at this; exact this)
  clear hF
  clear hb
  have bA_0 := bA.cell 0 rfl
  have bA_1 := bA.cell 1 rfl
  have bA_l := bA.lt
  have bD_0 := bD.cell 0 rfl
  have bD_1 := bD.cell 1 rfl
  have bD_2 := bD.cell 2 rfl
  have bD_l := bD.lt
  have bS_0 := bS.cell 0 rfl
  have bS_1 := bS.cell 1 rfl
  have bS_2 := bS.cell 2 rfl
  have bS_3 := bS.cell 3 rfl
  have bS_l := bS.lt
  have bX_0 := bX.cell 0 rfl
  have bX_1 := bX.cell 1 rfl
  have bX_2 := bX.cell 2 rfl
  have bX_3 := bX.cell 3 rfl
  have bX_l := bX.lt
  have bY_0 := bY.cell 0 rfl
  have bY_1 := bY.cell 1 rfl
  have bY_2 := bY.cell 2 rfl
  have bY_3 := bY.cell 3 rfl
  have bY_l := bY.lt
  go_wp2_with fail
  obtain ⟨W8, hW⟩ : ∃ W, W = ((w7.alloc (.cells #[.slice aQ xs.length cQ, .slice bQ vs.length dQ] 51)).alloc (.cells #[.int .i64 c3, .int .i64 s3, .int .i64 h3] 32)) := ⟨_, rfl⟩
  have hb : Below w7.heap.size w7 W8 := by rw [hW]; exact (by repeat (first | exact Below.refl _ _ | (refine Below.alloc ?_ (by simp <;> omega) _) | (refine Below.setCell ?_ (by simp <;> omega) _) | (refine Below.drew ?_) | (refine bel_drewN ?_ _)))
  have bB : Bk W8 (w7.heap.size) #[.slice aQ xs.length cQ, .slice bQ vs.length dQ] 51 := by rw [hW]; exact ((Bk.new' (by simp)).alloc _)
  have bE : Bk W8 (w7.heap.size + 1) #[.int .i64 c3, .int .i64 s3, .int .i64 h3] 32 := by rw [hW]; exact (Bk.new' (by simp))
  replace bA := bA.on hb
  replace bD := bD.on hb
  replace bS := bS.on hb
  replace bX := bX.on hb
  replace bY := bY.on hb
  replace HP := Lib.hid (HP.out.on hb)
  replace HQ := Lib.hid (HQ.out.on hb)
  replace HB := Lib.hid (bel_end HB.out hb)
  rw [← hW]
  clear bA_0 bA_1 bA_l bD_0 bD_1 bD_2 bD_l bS_0 bS_1 bS_2 bS_3 bS_l bX_0 bX_1 bX_2 bX_3 bX_l bY_0 bY_1 bY_2 bY_3 bY_l
  clear hW hb
  have bA_0 := bA.cell 0 rfl
  have bA_1 := bA.cell 1 rfl
  have bA_l := bA.lt
  have bD_0 := bD.cell 0 rfl
  have bD_1 := bD.cell 1 rfl
  have bD_2 := bD.cell 2 rfl
  have bD_l := bD.lt
  have bS_0 := bS.cell 0 rfl
  have bS_1 := bS.cell 1 rfl
  have bS_2 := bS.cell 2 rfl
  have bS_3 := bS.cell 3 rfl
  have bS_l := bS.lt
  have bX_0 := bX.cell 0 rfl
  have bX_1 := bX.cell 1 rfl
  have bX_2 := bX.cell 2 rfl
  have bX_3 := bX.cell 3 rfl
  have bX_l := bX.lt
  have bY_0 := bY.cell 0 rfl
  have bY_1 := bY.cell 1 rfl
  have bY_2 := bY.cell 2 rfl
  have bY_3 := bY.cell 3 rfl
  have bY_l := bY.lt
  have bB_0 := bB.cell 0 rfl
  have bB_1 := bB.cell 1 rfl
  have bB_l := bB.lt
  have bE_0 := bE.cell 0 rfl
  have bE_1 := bE.cell 1 rfl
  have bE_2 := bE.cell 2 rfl
  have bE_l := bE.lt
  refine (KF.out _ _ _ _ _ HQ.out.at_).mono ?_
  rintro e w9 ⟨rfl, hb⟩
  replace bA := bA.on hb
  replace bD := bD.on hb
  replace bS := bS.on hb
  replace bX := bX.on hb
  replace bY := bY.on hb
  replace bB := bB.on hb
  replace bE := bE.on hb
  replace HP := Lib.hid (HP.out.on hb)
  replace HQ := Lib.hid (HQ.out.on hb)
  replace HB := Lib.hid (bel_end HB.out hb)
  clear hb
  clear bA_0 bA_1 bA_l bD_0 bD_1 bD_2 bD_l bS_0 bS_1 bS_2 bS_3 bS_l bX_0 bX_1 bX_2 bX_3 bX_l bY_0 bY_1 bY_2 bY_3 bY_l bB_0 bB_1 bB_l bE_0 bE_1 bE_2 bE_l
  have bA_0 := bA.cell 0 rfl
  have bA_1 := bA.cell 1 rfl
  have bA_l := bA.lt
  have bD_0 := bD.cell 0 rfl
  have bD_1 := bD.cell 1 rfl
  have bD_2 := bD.cell 2 rfl
  have bD_l := bD.lt
  have bS_0 := bS.cell 0 rfl
  have bS_1 := bS.cell 1 rfl
  have bS_2 := bS.cell 2 rfl
  have bS_3 := bS.cell 3 rfl
  have bS_l := bS.lt
  have bX_0 := bX.cell 0 rfl
  have bX_1 := bX.cell 1 rfl
  have bX_2 := bX.cell 2 rfl
  have bX_3 := bX.cell 3 rfl
  have bX_l := bX.lt
  have bY_0 := bY.cell 0 rfl
  have bY_1 := bY.cell 1 rfl
  have bY_2 := bY.cell 2 rfl
  have bY_3 := bY.cell 3 rfl
  have bY_l := bY.lt
  have bB_0 := bB.cell 0 rfl
  have bB_1 := bB.cell 1 rfl
  have bB_l := bB.lt
  have bE_0 := bE.cell 0 rfl
  have bE_1 := bE.cell 1 rfl
  have bE_2 := bE.cell 2 rfl
  have bE_l := bE.lt
  go_wp2_with fail
  obtain ⟨W10, hW⟩ : ∃ W, W = (w9.alloc (.cells #[.int .i64 f0, .bool f1, .int .i64 f2, .int .i64 f3] 61)) := ⟨_, rfl⟩
  have hb : Below w9.heap.size w9 W10 := by rw [hW]; exact (by repeat (first | exact Below.refl _ _ | (refine Below.alloc ?_ (by simp <;> omega) _) | (refine Below.setCell ?_ (by simp <;> omega) _) | (refine Below.drew ?_) | (refine bel_drewN ?_ _)))
  have bF : Bk W10 (w9.heap.size) #[.int .i64 f0, .bool f1, .int .i64 f2, .int .i64 f3] 61 := by rw [hW]; exact (Bk.new' (by simp))
  replace bA := bA.on hb
  replace bD := bD.on hb
  replace bS := bS.on hb
  replace bX := bX.on hb
  replace bY := bY.on hb
  replace bB := bB.on hb
  replace bE := bE.on hb
  replace HP := Lib.hid (HP.out.on hb)
  replace HQ := Lib.hid (HQ.out.on hb)
  replace HB := Lib.hid (bel_end HB.out hb)
  rw [← hW]
  clear bA_0 bA_1 bA_l bD_0 bD_1 bD_2 bD_l bS_0 bS_1 bS_2 bS_3 bS_l bX_0 bX_1 bX_2 bX_3 bX_l bY_0 bY_1 bY_2 bY_3 bY_l bB_0 bB_1 bB_l bE_0 bE_1 bE_2 bE_l
  clear hW hb
  have bA_0 := bA.cell 0 rfl
  have bA_1 := bA.cell 1 rfl
  have bA_l := bA.lt
  have bD_0 := bD.cell 0 rfl
  have bD_1 := bD.cell 1 rfl
  have bD_2 := bD.cell 2 rfl
  have bD_l := bD.lt
  have bS_0 := bS.cell 0 rfl
  have bS_1 := bS.cell 1 rfl
  have bS_2 := bS.cell 2 rfl
  have bS_3 := bS.cell 3 rfl
  have bS_l := bS.lt
  have bX_0 := bX.cell 0 rfl
  have bX_1 := bX.cell 1 rfl
  have bX_2 := bX.cell 2 rfl
  have bX_3 := bX.cell 3 rfl
  have bX_l := bX.lt
  have bY_0 := bY.cell 0 rfl
  have bY_1 := bY.cell 1 rfl
  have bY_2 := bY.cell 2 rfl
  have bY_3 := bY.cell 3 rfl
  have bY_l := bY.lt
  have bB_0 := bB.cell 0 rfl
  have bB_1 := bB.cell 1 rfl
  have bB_l := bB.lt
  have bE_0 := bE.cell 0 rfl
  have bE_1 := bE.cell 1 rfl
  have bE_2 := bE.cell 2 rfl
  have bE_l := bE.lt
  have bF_0 := bF.cell 0 rfl
  have bF_1 := bF.cell 1 rfl
  have bF_2 := bF.cell 2 rfl
  have bF_3 := bF.cell 3 rfl
  have bF_l := bF.lt
  refine (KG.out _ _ _ _ _ HQ.out.at_).mono ?_
  rintro e w11 ⟨rfl, hb⟩
  replace bA := bA.on hb
  replace bD := bD.on hb
  replace bS := bS.on hb
  replace bX := bX.on hb
  replace bY := bY.on hb
  replace bB := bB.on hb
  replace bE := bE.on hb
  replace bF := bF.on hb
  replace HP := Lib.hid (HP.out.on hb)
  replace HQ := Lib.hid (HQ.out.on hb)
  replace HB := Lib.hid (bel_end HB.out hb)
  clear hb
  clear bA_0 bA_1 bA_l bD_0 bD_1 bD_2 bD_l bS_0 bS_1 bS_2 bS_3 bS_l bX_0 bX_1 bX_2 bX_3 bX_l bY_0 bY_1 bY_2 bY_3 bY_l bB_0 bB_1 bB_l bE_0 bE_1 bE_2 bE_l bF_0 bF_1 bF_2 bF_3 bF_l
  clear KT KU KF KG
  have bA_0 := bA.cell 0 rfl
  have bA_1 := bA.cell 1 rfl
  have bA_l := bA.lt
  have bD_0 := bD.cell 0 rfl
  have bD_1 := bD.cell 1 rfl
  have bD_2 := bD.cell 2 rfl
  have bD_l := bD.lt
  have bS_0 := bS.cell 0 rfl
  have bS_1 := bS.cell 1 rfl
  have bS_2 := bS.cell 2 rfl
  have bS_3 := bS.cell 3 rfl
  have bS_l := bS.lt
  have bX_0 := bX.cell 0 rfl
  have bX_1 := bX.cell 1 rfl
  have bX_2 := bX.cell 2 rfl
  have bX_3 := bX.cell 3 rfl
  have bX_l := bX.lt
  have bY_0 := bY.cell 0 rfl
  have bY_1 := bY.cell 1 rfl
  have bY_2 := bY.cell 2 rfl
  have bY_3 := bY.cell 3 rfl
  have bY_l := bY.lt
  have bB_0 := bB.cell 0 rfl
  have bB_1 := bB.cell 1 rfl
  have bB_l := bB.lt
  have bE_0 := bE.cell 0 rfl
  have bE_1 := bE.cell 1 rfl
  have bE_2 := bE.cell 2 rfl
  have bE_l := bE.lt
  have bF_0 := bF.cell 0 rfl
  have bF_1 := bF.cell 1 rfl
  have bF_2 := bF.cell 2 rfl
  have bF_3 := bF.cell 3 rfl
  have bF_l := bF.lt
  go_upto_region 9 with fail
  clear bA_0 bA_1 bA_l bD_0 bD_1 bD_2 bD_l bS_0 bS_1 bS_2 bS_3 bS_l bX_0 bX_1 bX_2 bX_3 bX_l bY_0 bY_1 bY_2 bY_3 bY_l bB_0 bB_1 bB_l bE_0 bE_1 bE_2 bE_l bF_0 bF_1 bF_2 bF_3 bF_l
  obtain ⟨W12, hW⟩ : ∃ W, W = (w11.alloc (.cells #[.int .i64 f0, .bool f1, .int .i64 f2, .int .i64 f3] 61)) := ⟨_, rfl⟩
  have hb : Below w11.heap.size w11 W12 := by rw [hW]; exact (by repeat (first | exact Below.refl _ _ | (refine Below.alloc ?_ (by simp <;> omega) _) | (refine Below.setCell ?_ (by simp <;> omega) _) | (refine Below.drew ?_) | (refine bel_drewN ?_ _)))
  have bG : Bk W12 (w11.heap.size) #[.int .i64 f0, .bool f1, .int .i64 f2, .int .i64 f3] 61 := by rw [hW]; exact (Bk.new' (by simp))
  replace bA := bA.on hb
  replace bD := bD.on hb
  replace bS := bS.on hb
  replace bX := bX.on hb
  replace bY := bY.on hb
  replace bB := bB.on hb
  replace bE := bE.on hb
  replace bF := bF.on hb
  replace HP := Lib.hid (HP.out.on hb)
  replace HQ := Lib.hid (HQ.out.on hb)
  replace HB := Lib.hid (bel_end HB.out hb)
  rw [← hW]
  clear hW hb
  have hEQ : ∀ w : World, _ := fun w => eq_rsx w K2 l2 h2 d2
  have hEF : ∀ w : World, _ := fun w => eq_rsx w f0 f2 f3 f1
  go_cut [105] (fun s wx => s = .bool false ∧ Below W12.heap.size W12 wx)
  case first =>
    have HW : Hid (Below W12.heap.size W12 W12) := Lib.hid (Below.refl _ _)
    obtain ⟨S, hSd⟩ : ∃ S : World → Prop, ∀ w', S w' ↔ (w'.cell? ⟨w3.heap.size, 0, none⟩ = some (.int .i64 K2) ∧ w'.cell? ⟨w3.heap.size, 1, none⟩ = some (.bool d2) ∧ w'.cell? ⟨w3.heap.size, 2, none⟩ = some (.int .i64 l2) ∧ w'.cell? ⟨w3.heap.size, 3, none⟩ = some (.int .i64 h2) ∧ w'.cell? ⟨w5.heap.size, 0, none⟩ = some (.int .i64 K2) ∧ w'.cell? ⟨w5.heap.size, 1, none⟩ = some (.bool d2) ∧ w'.cell? ⟨w5.heap.size, 2, none⟩ = some (.int .i64 l2) ∧ w'.cell? ⟨w5.heap.size, 3, none⟩ = some (.int .i64 h2) ∧ w'.cell? ⟨w9.heap.size, 0, none⟩ = some (.int .i64 f0) ∧ w'.cell? ⟨w9.heap.size, 1, none⟩ = some (.bool f1) ∧ w'.cell? ⟨w9.heap.size, 2, none⟩ = some (.int .i64 f2) ∧ w'.cell? ⟨w9.heap.size, 3, none⟩ = some (.int .i64 f3) ∧ w'.cell? ⟨w11.heap.size, 0, none⟩ = some (.int .i64 f0) ∧ w'.cell? ⟨w11.heap.size, 1, none⟩ = some (.bool f1) ∧ w'.cell? ⟨w11.heap.size, 2, none⟩ = some (.int .i64 f2) ∧ w'.cell? ⟨w11.heap.size, 3, none⟩ = some (.int .i64 f3) ∧ w'.cell? ⟨w1.heap.size, 0, none⟩ = some (.slice aP zs.length cP) ∧ w'.cell? ⟨w1.heap.size, 1, none⟩ = some (.slice bP ys.length dP) ∧ w'.cell? ⟨w1.heap.size + 1, 0, none⟩ = some (.int .i64 c) ∧ w'.cell? ⟨w1.heap.size + 1, 1, none⟩ = some (.int .i64 s) ∧ w'.cell? ⟨w1.heap.size + 1, 2, none⟩ = some (.int .i64 h) ∧ w'.cell? ⟨w1.heap.size + 1 + 1, 0, none⟩ = some (.int .i64 K) ∧ w'.cell? ⟨w1.heap.size + 1 + 1, 1, none⟩ = some (.bool dn) ∧ w'.cell? ⟨w1.heap.size + 1 + 1, 2, none⟩ = some (.int .i64 lo) ∧ w'.cell? ⟨w1.heap.size + 1 + 1, 3, none⟩ = some (.int .i64 hi)) := ⟨_, fun _ => Iff.rfl⟩
    have HSp : Hid (∀ w' : World, Bk w' (w3.heap.size) #[.int .i64 K2, .bool d2, .int .i64 l2, .int .i64 h2] 61 → Bk w' (w5.heap.size) #[.int .i64 K2, .bool d2, .int .i64 l2, .int .i64 h2] 61 → Bk w' (w9.heap.size) #[.int .i64 f0, .bool f1, .int .i64 f2, .int .i64 f3] 61 → Bk w' (w11.heap.size) #[.int .i64 f0, .bool f1, .int .i64 f2, .int .i64 f3] 61 → Bk w' (w1.heap.size) #[.slice aP zs.length cP, .slice bP ys.length dP] 51 → Bk w' (w1.heap.size + 1) #[.int .i64 c, .int .i64 s, .int .i64 h] 32 → Bk w' (w1.heap.size + 1 + 1) #[.int .i64 K, .bool dn, .int .i64 lo, .int .i64 hi] 61 → S w') := Lib.hid (fun w' bX bY bF bG bA bD bS => (hSd w').2 ⟨bX.cell 0 rfl, bX.cell 1 rfl, bX.cell 2 rfl, bX.cell 3 rfl, bY.cell 0 rfl, bY.cell 1 rfl, bY.cell 2 rfl, bY.cell 3 rfl, bF.cell 0 rfl, bF.cell 1 rfl, bF.cell 2 rfl, bF.cell 3 rfl, bG.cell 0 rfl, bG.cell 1 rfl, bG.cell 2 rfl, bG.cell 3 rfl, bA.cell 0 rfl, bA.cell 1 rfl, bD.cell 0 rfl, bD.cell 1 rfl, bD.cell 2 rfl, bS.cell 0 rfl, bS.cell 1 rfl, bS.cell 2 rfl, bS.cell 3 rfl⟩)
    have HSd := Lib.hid hSd
    clear hSd
    refine wp_region_held_drew (S := S) (by kernel_rfl) ?_ (fun hH => ?_)
    · exact (HSp.out _ bX bY bF bG bA bD bS : S (World.drew W12))
    clear hH
    generalize hX : World.drew W12 = V0
    replace bX : Bk V0 (w3.heap.size) #[.int .i64 K2, .bool d2, .int .i64 l2, .int .i64 h2] 61 := by rw [← hX]; exact bX
    replace bY : Bk V0 (w5.heap.size) #[.int .i64 K2, .bool d2, .int .i64 l2, .int .i64 h2] 61 := by rw [← hX]; exact bY
    replace bF : Bk V0 (w9.heap.size) #[.int .i64 f0, .bool f1, .int .i64 f2, .int .i64 f3] 61 := by rw [← hX]; exact bF
    replace bG : Bk V0 (w11.heap.size) #[.int .i64 f0, .bool f1, .int .i64 f2, .int .i64 f3] 61 := by rw [← hX]; exact bG
    replace bA : Bk V0 (w1.heap.size) #[.slice aP zs.length cP, .slice bP ys.length dP] 51 := by rw [← hX]; exact bA
    replace bD : Bk V0 (w1.heap.size + 1) #[.int .i64 c, .int .i64 s, .int .i64 h] 32 := by rw [← hX]; exact bD
    replace bS : Bk V0 (w1.heap.size + 1 + 1) #[.int .i64 K, .bool dn, .int .i64 lo, .int .i64 hi] 61 := by rw [← hX]; exact bS
    have hb : Below W12.heap.size W12 V0 := by rw [← hX]; exact (Below.refl _ _).drew
    clear hX
    replace HW := Lib.hid (bel_end HW.out hb)
    clear hb
    have hS := HSp.out _ bX bY bF bG bA bD bS
    refine wpAnyH_take (i := 0) (oi := { dst := some 70, op := Go.Op.move (Go.Operand.tmp 9), type := 2, pos := "laws.go:1728", after := #[], guard := none }) (v := ?_) rfl (by kernel_rfl) (by kernel_rfl) (by kernel_rfl) (fun _ _ _ h => h) (Or.inl ⟨by rfl, ?_⟩) hS ?_
    rotate_left
    · (intro w hSw; have hSw := (HSd.out w).1 hSw; go_split_ands; go_simp) <;> with_reducible rfl
    clear hS
    try simp only [Act.put, List.setIfInBounds_toArray, List.set_cons_zero, List.set_cons_succ]
    have hS := HSp.out _ bX bY bF bG bA bD bS
    refine wpAnyH_take (i := 1) (oi := { dst := some 71, op := Go.Op.move (Go.Operand.tmp 12), type := 2, pos := "laws.go:1728", after := #[], guard := none }) (v := ?_) rfl (by kernel_rfl) (by kernel_rfl) (by kernel_rfl) (fun _ _ _ h => h) (Or.inl ⟨by rfl, ?_⟩) hS ?_
    rotate_left
    · (intro w hSw; have hSw := (HSd.out w).1 hSw; go_split_ands; go_simp) <;> with_reducible rfl
    clear hS
    try simp only [Act.put, List.setIfInBounds_toArray, List.set_cons_zero, List.set_cons_succ]
    have hS := HSp.out _ bX bY bF bG bA bD bS
    refine wpAnyH_take (i := 2) (oi := { dst := some 72, op := Go.Op.binOp Go.BinOp.neq 2 (Go.Operand.tmp 70) (Go.Operand.tmp 71) 2, type := 4, pos := "laws.go:1728", after := #[{ on := 0, ground := Go.Ground.data }, { on := 1, ground := Go.Ground.data }], guard := none }) (v := ?_) rfl (by kernel_rfl) (by kernel_rfl) (by kernel_rfl) (fun _ _ _ h => h) (Or.inl ⟨by rfl, ?_⟩) hS ?_
    rotate_left
    · (intro w hSw; have hSw := (HSd.out w).1 hSw; go_split_ands; go_simp) <;> with_reducible rfl
    clear hS
    try simp only [Act.put, List.setIfInBounds_toArray, List.set_cons_zero, List.set_cons_succ]
    have hS := HSp.out _ bX bY bF bG bA bD bS
    refine wpAnyH_take (i := 3) (oi := { dst := some 73, op := Go.Op.move (Go.Operand.tmp 72), type := 4, pos := "laws.go:1728", after := #[{ on := 2, ground := Go.Ground.data }], guard := none }) (v := ?_) rfl (by kernel_rfl) (by kernel_rfl) (by kernel_rfl) (fun _ _ _ h => h) (Or.inl ⟨by rfl, ?_⟩) hS ?_
    rotate_left
    · (intro w hSw; have hSw := (HSd.out w).1 hSw; go_split_ands; go_simp) <;> with_reducible rfl
    clear hS
    try simp only [Act.put, List.setIfInBounds_toArray, List.set_cons_zero, List.set_cons_succ]
    have hS := HSp.out _ bX bY bF bG bA bD bS
    refine wpAnyH_take (i := 4) (oi := { dst := some 74, op := Go.Op.load 61 (Go.Operand.tmp 7), type := 61, pos := "laws.go:1728", after := #[{ on := 3, ground := Go.Ground.guard }], guard := some (3, false) }) (v := ?_) rfl (by kernel_rfl) (by kernel_rfl) (by kernel_rfl) (fun _ _ _ h => h) (Or.inl ⟨by rfl, ?_⟩) hS ?_
    rotate_left
    · (intro w hSw; have hSw := (HSd.out w).1 hSw; go_split_ands; go_simp) <;> with_reducible rfl
    clear hS
    try simp only [Act.put, List.setIfInBounds_toArray, List.set_cons_zero, List.set_cons_succ]
    have hS := HSp.out _ bX bY bF bG bA bD bS
    refine wpAnyH_take (i := 5) (oi := { dst := some 75, op := Go.Op.load 61 (Go.Operand.tmp 10), type := 61, pos := "laws.go:1728", after := #[{ on := 3, ground := Go.Ground.guard }], guard := some (3, false) }) (v := ?_) rfl (by kernel_rfl) (by kernel_rfl) (by kernel_rfl) (fun _ _ _ h => h) (Or.inl ⟨by rfl, ?_⟩) hS ?_
    rotate_left
    · (intro w hSw; have hSw := (HSd.out w).1 hSw; go_split_ands; go_simp) <;> with_reducible rfl
    clear hS
    try simp only [Act.put, List.setIfInBounds_toArray, List.set_cons_zero, List.set_cons_succ]
    have hS := HSp.out _ bX bY bF bG bA bD bS
    refine wpAnyH_take (i := 6) (oi := { dst := some 76, op := Go.Op.binOp Go.BinOp.neq 61 (Go.Operand.tmp 74) (Go.Operand.tmp 75) 61, type := 4, pos := "laws.go:1728", after := #[{ on := 4, ground := Go.Ground.data }, { on := 5, ground := Go.Ground.data }, { on := 3, ground := Go.Ground.guard }], guard := some (3, false) }) (v := ?_) rfl (by kernel_rfl) (by kernel_rfl) (by kernel_rfl) (fun _ _ _ h => h) (Or.inl ⟨by rfl, ?_⟩) hS ?_
    rotate_left
    · (intro w hSw; have hSw := (HSd.out w).1 hSw; go_split_ands; go_simp) <;> with_reducible rfl
    clear hS
    try simp only [Act.put, List.setIfInBounds_toArray, List.set_cons_zero, List.set_cons_succ]
    have hS := HSp.out _ bX bY bF bG bA bD bS
    refine wpAnyH_take (i := 7) (oi := { dst := some 77, op := Go.Op.pick (Go.Operand.tmp 73) (Go.Operand.const (Go.Value.bool true)) (Go.Operand.tmp 76), type := 4, pos := "laws.go:1728", after := #[{ on := 3, ground := Go.Ground.data }, { on := 6, ground := Go.Ground.data }], guard := none }) (v := ?_) rfl (by kernel_rfl) (by kernel_rfl) (by kernel_rfl) (fun _ _ _ h => h) (Or.inl ⟨by rfl, ?_⟩) hS ?_
    rotate_left
    · (intro w hSw; have hSw := (HSd.out w).1 hSw; go_split_ands; go_simp) <;> with_reducible rfl
    clear hS
    try simp only [Act.put, List.setIfInBounds_toArray, List.set_cons_zero, List.set_cons_succ]
    have hS := HSp.out _ bX bY bF bG bA bD bS
    refine wpAnyH_take (i := 8) (oi := { dst := some 78, op := Go.Op.move (Go.Operand.tmp 77), type := 4, pos := "laws.go:1728", after := #[{ on := 7, ground := Go.Ground.data }, { on := 3, ground := Go.Ground.chain }], guard := none }) (v := ?_) rfl (by kernel_rfl) (by kernel_rfl) (by kernel_rfl) (fun _ _ _ h => h) (Or.inl ⟨by rfl, ?_⟩) hS ?_
    rotate_left
    · (intro w hSw; have hSw := (HSd.out w).1 hSw; go_split_ands; go_simp) <;> with_reducible rfl
    clear hS
    try simp only [Act.put, List.setIfInBounds_toArray, List.set_cons_zero, List.set_cons_succ]
    have hS := HSp.out _ bX bY bF bG bA bD bS
    refine wpAnyH_take (i := 9) (oi := { dst := some 79, op := Go.Op.move (Go.Operand.tmp 8), type := 2, pos := "laws.go:1728", after := #[{ on := 8, ground := Go.Ground.guard }], guard := some (8, false) }) (v := ?_) rfl (by kernel_rfl) (by kernel_rfl) (by kernel_rfl) (fun _ _ _ h => h) (Or.inl ⟨by rfl, ?_⟩) hS ?_
    rotate_left
    · (intro w hSw; have hSw := (HSd.out w).1 hSw; go_split_ands; go_simp) <;> with_reducible rfl
    clear hS
    try simp only [Act.put, List.setIfInBounds_toArray, List.set_cons_zero, List.set_cons_succ]
    have hS := HSp.out _ bX bY bF bG bA bD bS
    refine wpAnyH_take (i := 10) (oi := { dst := some 80, op := Go.Op.move (Go.Operand.tmp 11), type := 2, pos := "laws.go:1728", after := #[{ on := 8, ground := Go.Ground.guard }], guard := some (8, false) }) (v := ?_) rfl (by kernel_rfl) (by kernel_rfl) (by kernel_rfl) (fun _ _ _ h => h) (Or.inl ⟨by rfl, ?_⟩) hS ?_
    rotate_left
    · (intro w hSw; have hSw := (HSd.out w).1 hSw; go_split_ands; go_simp) <;> with_reducible rfl
    clear hS
    try simp only [Act.put, List.setIfInBounds_toArray, List.set_cons_zero, List.set_cons_succ]
    have hS := HSp.out _ bX bY bF bG bA bD bS
    refine wpAnyH_take (i := 11) (oi := { dst := some 81, op := Go.Op.binOp Go.BinOp.neq 2 (Go.Operand.tmp 79) (Go.Operand.tmp 80) 2, type := 4, pos := "laws.go:1728", after := #[{ on := 9, ground := Go.Ground.data }, { on := 10, ground := Go.Ground.data }, { on := 8, ground := Go.Ground.guard }], guard := some (8, false) }) (v := ?_) rfl (by kernel_rfl) (by kernel_rfl) (by kernel_rfl) (fun _ _ _ h => h) (Or.inl ⟨by rfl, ?_⟩) hS ?_
    rotate_left
    · (intro w hSw; have hSw := (HSd.out w).1 hSw; go_split_ands; go_simp) <;> with_reducible rfl
    clear hS
    try simp only [Act.put, List.setIfInBounds_toArray, List.set_cons_zero, List.set_cons_succ]
    have hS := HSp.out _ bX bY bF bG bA bD bS
    refine wpAnyH_take (i := 12) (oi := { dst := some 82, op := Go.Op.pick (Go.Operand.tmp 78) (Go.Operand.const (Go.Value.bool true)) (Go.Operand.tmp 81), type := 4, pos := "laws.go:1728", after := #[{ on := 8, ground := Go.Ground.data }, { on := 11, ground := Go.Ground.data }], guard := none }) (v := ?_) rfl (by kernel_rfl) (by kernel_rfl) (by kernel_rfl) (fun _ _ _ h => h) (Or.inl ⟨by rfl, ?_⟩) hS ?_
    rotate_left
    · (intro w hSw; have hSw := (HSd.out w).1 hSw; go_split_ands; go_simp) <;> with_reducible rfl
    clear hS
    try simp only [Act.put, List.setIfInBounds_toArray, List.set_cons_zero, List.set_cons_succ]
    have hS := HSp.out _ bX bY bF bG bA bD bS
    refine wpAnyH_take (i := 13) (oi := { dst := some 83, op := Go.Op.move (Go.Operand.tmp 82), type := 4, pos := "laws.go:1728", after := #[{ on := 12, ground := Go.Ground.data }, { on := 8, ground := Go.Ground.chain }], guard := none }) (v := ?_) rfl (by kernel_rfl) (by kernel_rfl) (by kernel_rfl) (fun _ _ _ h => h) (Or.inl ⟨by rfl, ?_⟩) hS ?_
    rotate_left
    · (intro w hSw; have hSw := (HSd.out w).1 hSw; go_split_ands; go_simp) <;> with_reducible rfl
    clear hS
    try simp only [Act.put, List.setIfInBounds_toArray, List.set_cons_zero, List.set_cons_succ]
    have hS := HSp.out _ bX bY bF bG bA bD bS
    refine wpAnyH_take (i := 14) (oi := { dst := some 84, op := Go.Op.move (Go.Operand.tmp 17), type := 2, pos := "laws.go:1728", after := #[{ on := 13, ground := Go.Ground.guard }], guard := some (13, false) }) (v := ?_) rfl (by kernel_rfl) (by kernel_rfl) (by kernel_rfl) (fun _ _ _ h => h) (Or.inl ⟨by rfl, ?_⟩) hS ?_
    rotate_left
    · (intro w hSw; have hSw := (HSd.out w).1 hSw; go_split_ands; go_simp) <;> with_reducible rfl
    clear hS
    try simp only [Act.put, List.setIfInBounds_toArray, List.set_cons_zero, List.set_cons_succ]
    have hS := HSp.out _ bX bY bF bG bA bD bS
    refine wpAnyH_take (i := 15) (oi := { dst := some 85, op := Go.Op.move (Go.Operand.tmp 19), type := 2, pos := "laws.go:1728", after := #[{ on := 13, ground := Go.Ground.guard }], guard := some (13, false) }) (v := ?_) rfl (by kernel_rfl) (by kernel_rfl) (by kernel_rfl) (fun _ _ _ h => h) (Or.inl ⟨by rfl, ?_⟩) hS ?_
    rotate_left
    · (intro w hSw; have hSw := (HSd.out w).1 hSw; go_split_ands; go_simp) <;> with_reducible rfl
    clear hS
    try simp only [Act.put, List.setIfInBounds_toArray, List.set_cons_zero, List.set_cons_succ]
    have hS := HSp.out _ bX bY bF bG bA bD bS
    refine wpAnyH_take (i := 16) (oi := { dst := some 86, op := Go.Op.binOp Go.BinOp.neq 2 (Go.Operand.tmp 84) (Go.Operand.tmp 85) 2, type := 4, pos := "laws.go:1728", after := #[{ on := 14, ground := Go.Ground.data }, { on := 15, ground := Go.Ground.data }, { on := 13, ground := Go.Ground.guard }], guard := some (13, false) }) (v := ?_) rfl (by kernel_rfl) (by kernel_rfl) (by kernel_rfl) (fun _ _ _ h => h) (Or.inl ⟨by rfl, ?_⟩) hS ?_
    rotate_left
    · (intro w hSw; have hSw := (HSd.out w).1 hSw; go_split_ands; go_simp) <;> with_reducible rfl
    clear hS
    try simp only [Act.put, List.setIfInBounds_toArray, List.set_cons_zero, List.set_cons_succ]
    have hS := HSp.out _ bX bY bF bG bA bD bS
    refine wpAnyH_take (i := 17) (oi := { dst := some 87, op := Go.Op.pick (Go.Operand.tmp 83) (Go.Operand.const (Go.Value.bool true)) (Go.Operand.tmp 86), type := 4, pos := "laws.go:1728", after := #[{ on := 13, ground := Go.Ground.data }, { on := 16, ground := Go.Ground.data }], guard := none }) (v := ?_) rfl (by kernel_rfl) (by kernel_rfl) (by kernel_rfl) (fun _ _ _ h => h) (Or.inl ⟨by rfl, ?_⟩) hS ?_
    rotate_left
    · (intro w hSw; have hSw := (HSd.out w).1 hSw; go_split_ands; go_simp) <;> with_reducible rfl
    clear hS
    try simp only [Act.put, List.setIfInBounds_toArray, List.set_cons_zero, List.set_cons_succ]
    have hS := HSp.out _ bX bY bF bG bA bD bS
    refine wpAnyH_take (i := 18) (oi := { dst := some 88, op := Go.Op.move (Go.Operand.tmp 87), type := 4, pos := "laws.go:1728", after := #[{ on := 17, ground := Go.Ground.data }, { on := 13, ground := Go.Ground.chain }], guard := none }) (v := ?_) rfl (by kernel_rfl) (by kernel_rfl) (by kernel_rfl) (fun _ _ _ h => h) (Or.inl ⟨by rfl, ?_⟩) hS ?_
    rotate_left
    · (intro w hSw; have hSw := (HSd.out w).1 hSw; go_split_ands; go_simp) <;> with_reducible rfl
    clear hS
    try simp only [Act.put, List.setIfInBounds_toArray, List.set_cons_zero, List.set_cons_succ]
    have hS := HSp.out _ bX bY bF bG bA bD bS
    refine wpAnyH_take (i := 19) (oi := { dst := some 89, op := Go.Op.load 61 (Go.Operand.tmp 16), type := 61, pos := "laws.go:1728", after := #[{ on := 18, ground := Go.Ground.guard }], guard := some (18, false) }) (v := ?_) rfl (by kernel_rfl) (by kernel_rfl) (by kernel_rfl) (fun _ _ _ h => h) (Or.inl ⟨by rfl, ?_⟩) hS ?_
    rotate_left
    · (intro w hSw; have hSw := (HSd.out w).1 hSw; go_split_ands; go_simp) <;> with_reducible rfl
    clear hS
    try simp only [Act.put, List.setIfInBounds_toArray, List.set_cons_zero, List.set_cons_succ]
    have hS := HSp.out _ bX bY bF bG bA bD bS
    refine wpAnyH_take (i := 20) (oi := { dst := some 90, op := Go.Op.load 61 (Go.Operand.tmp 18), type := 61, pos := "laws.go:1728", after := #[{ on := 18, ground := Go.Ground.guard }], guard := some (18, false) }) (v := ?_) rfl (by kernel_rfl) (by kernel_rfl) (by kernel_rfl) (fun _ _ _ h => h) (Or.inl ⟨by rfl, ?_⟩) hS ?_
    rotate_left
    · (intro w hSw; have hSw := (HSd.out w).1 hSw; go_split_ands; go_simp) <;> with_reducible rfl
    clear hS
    try simp only [Act.put, List.setIfInBounds_toArray, List.set_cons_zero, List.set_cons_succ]
    have hS := HSp.out _ bX bY bF bG bA bD bS
    refine wpAnyH_take (i := 21) (oi := { dst := some 91, op := Go.Op.binOp Go.BinOp.neq 61 (Go.Operand.tmp 89) (Go.Operand.tmp 90) 61, type := 4, pos := "laws.go:1728", after := #[{ on := 19, ground := Go.Ground.data }, { on := 20, ground := Go.Ground.data }, { on := 18, ground := Go.Ground.guard }], guard := some (18, false) }) (v := ?_) rfl (by kernel_rfl) (by kernel_rfl) (by kernel_rfl) (fun _ _ _ h => h) (Or.inl ⟨by rfl, ?_⟩) hS ?_
    rotate_left
    · (intro w hSw; have hSw := (HSd.out w).1 hSw; go_split_ands; go_simp) <;> with_reducible rfl
    clear hS
    try simp only [Act.put, List.setIfInBounds_toArray, List.set_cons_zero, List.set_cons_succ]
    have hS := HSp.out _ bX bY bF bG bA bD bS
    refine wpAnyH_take (i := 22) (oi := { dst := some 92, op := Go.Op.pick (Go.Operand.tmp 88) (Go.Operand.const (Go.Value.bool true)) (Go.Operand.tmp 91), type := 4, pos := "laws.go:1728", after := #[{ on := 18, ground := Go.Ground.data }, { on := 21, ground := Go.Ground.data }], guard := none }) (v := ?_) rfl (by kernel_rfl) (by kernel_rfl) (by kernel_rfl) (fun _ _ _ h => h) (Or.inl ⟨by rfl, ?_⟩) hS ?_
    rotate_left
    · (intro w hSw; have hSw := (HSd.out w).1 hSw; go_split_ands; go_simp) <;> with_reducible rfl
    clear hS
    try simp only [Act.put, List.setIfInBounds_toArray, List.set_cons_zero, List.set_cons_succ]
    have hS := HSp.out _ bX bY bF bG bA bD bS
    refine wpAnyH_take (i := 23) (oi := { dst := some 93, op := Go.Op.move (Go.Operand.tmp 92), type := 4, pos := "laws.go:1728", after := #[{ on := 22, ground := Go.Ground.data }, { on := 18, ground := Go.Ground.chain }], guard := none }) (v := ?_) rfl (by kernel_rfl) (by kernel_rfl) (by kernel_rfl) (fun _ _ _ h => h) (Or.inl ⟨by rfl, ?_⟩) hS ?_
    rotate_left
    · (intro w hSw; have hSw := (HSd.out w).1 hSw; go_split_ands; go_simp) <;> with_reducible rfl
    clear hS
    try simp only [Act.put, List.setIfInBounds_toArray, List.set_cons_zero, List.set_cons_succ]
    have hS := HSp.out _ bX bY bF bG bA bD bS
    refine wpAnyH_take (i := 24) (oi := { dst := some 94, op := Go.Op.load 51 (Go.Operand.tmp 3), type := 51, pos := "laws.go:1728", after := #[{ on := 23, ground := Go.Ground.guard }], guard := some (23, false) }) (v := ?_) rfl (by kernel_rfl) (by kernel_rfl) (by kernel_rfl) (fun _ _ _ h => h) (Or.inl ⟨by rfl, ?_⟩) hS ?_
    rotate_left
    · (intro w hSw; have hSw := (HSd.out w).1 hSw; go_split_ands; go_simp) <;> with_reducible rfl
    clear hS
    try simp only [Act.put, List.setIfInBounds_toArray, List.set_cons_zero, List.set_cons_succ]
    have hS := HSp.out _ bX bY bF bG bA bD bS
    refine wpAnyH_take (i := 25) (oi := { dst := some 95, op := Go.Op.move (Go.Operand.tmp 4), type := 2, pos := "laws.go:1728", after := #[{ on := 23, ground := Go.Ground.guard }], guard := some (23, false) }) (v := ?_) rfl (by kernel_rfl) (by kernel_rfl) (by kernel_rfl) (fun _ _ _ h => h) (Or.inl ⟨by rfl, ?_⟩) hS ?_
    rotate_left
    · (intro w hSw; have hSw := (HSd.out w).1 hSw; go_split_ands; go_simp) <;> with_reducible rfl
    clear hS
    try simp only [Act.put, List.setIfInBounds_toArray, List.set_cons_zero, List.set_cons_succ]
    have hS := HSp.out _ bX bY bF bG bA bD bS
    refine wpAnyH_take (i := 26) (oi := { dst := some 96, op := Go.Op.load 32 (Go.Operand.tmp 5), type := 32, pos := "laws.go:1728", after := #[{ on := 23, ground := Go.Ground.guard }], guard := some (23, false) }) (v := ?_) rfl (by kernel_rfl) (by kernel_rfl) (by kernel_rfl) (fun _ _ _ h => h) (Or.inl ⟨by rfl, ?_⟩) hS ?_
    rotate_left
    · (intro w hSw; have hSw := (HSd.out w).1 hSw; go_split_ands; go_simp) <;> with_reducible rfl
    clear hS
    try simp only [Act.put, List.setIfInBounds_toArray, List.set_cons_zero, List.set_cons_succ]
    have hS := HSp.out _ bX bY bF bG bA bD bS
    refine wpAnyH_take (i := 27) (oi := { dst := some 97, op := Go.Op.load 61 (Go.Operand.tmp 6), type := 61, pos := "laws.go:1728", after := #[{ on := 23, ground := Go.Ground.guard }], guard := some (23, false) }) (v := ?_) rfl (by kernel_rfl) (by kernel_rfl) (by kernel_rfl) (fun _ _ _ h => h) (Or.inl ⟨by rfl, ?_⟩) hS ?_
    rotate_left
    · (intro w hSw; have hSw := (HSd.out w).1 hSw; go_split_ands; go_simp) <;> with_reducible rfl
    clear hS
    try simp only [Act.put, List.setIfInBounds_toArray, List.set_cons_zero, List.set_cons_succ]
    have hS := HSp.out _ bX bY bF bG bA bD bS
    refine wpAnyH_take (i := 29) (oi := { dst := some 99, op := Go.Op.load 51 (Go.Operand.tmp 3), type := 51, pos := "laws.go:1728", after := #[{ on := 23, ground := Go.Ground.guard }], guard := some (23, false) }) (v := ?_) rfl (by kernel_rfl) (by kernel_rfl) (by kernel_rfl) (fun _ _ _ h => h) (Or.inl ⟨by rfl, ?_⟩) hS ?_
    rotate_left
    · (intro w hSw; have hSw := (HSd.out w).1 hSw; go_split_ands; go_simp) <;> with_reducible rfl
    clear hS
    try simp only [Act.put, List.setIfInBounds_toArray, List.set_cons_zero, List.set_cons_succ]
    have hS := HSp.out _ bX bY bF bG bA bD bS
    refine wpAnyH_take (i := 30) (oi := { dst := some 100, op := Go.Op.move (Go.Operand.tmp 4), type := 2, pos := "laws.go:1728", after := #[{ on := 23, ground := Go.Ground.guard }], guard := some (23, false) }) (v := ?_) rfl (by kernel_rfl) (by kernel_rfl) (by kernel_rfl) (fun _ _ _ h => h) (Or.inl ⟨by rfl, ?_⟩) hS ?_
    rotate_left
    · (intro w hSw; have hSw := (HSd.out w).1 hSw; go_split_ands; go_simp) <;> with_reducible rfl
    clear hS
    try simp only [Act.put, List.setIfInBounds_toArray, List.set_cons_zero, List.set_cons_succ]
    have hS := HSp.out _ bX bY bF bG bA bD bS
    refine wpAnyH_take (i := 31) (oi := { dst := some 101, op := Go.Op.load 32 (Go.Operand.tmp 5), type := 32, pos := "laws.go:1728", after := #[{ on := 23, ground := Go.Ground.guard }], guard := some (23, false) }) (v := ?_) rfl (by kernel_rfl) (by kernel_rfl) (by kernel_rfl) (fun _ _ _ h => h) (Or.inl ⟨by rfl, ?_⟩) hS ?_
    rotate_left
    · (intro w hSw; have hSw := (HSd.out w).1 hSw; go_split_ands; go_simp) <;> with_reducible rfl
    clear hS
    try simp only [Act.put, List.setIfInBounds_toArray, List.set_cons_zero, List.set_cons_succ]
    have hS := HSp.out _ bX bY bF bG bA bD bS
    refine wpAnyH_take (i := 32) (oi := { dst := some 102, op := Go.Op.load 61 (Go.Operand.tmp 6), type := 61, pos := "laws.go:1728", after := #[{ on := 23, ground := Go.Ground.guard }], guard := some (23, false) }) (v := ?_) rfl (by kernel_rfl) (by kernel_rfl) (by kernel_rfl) (fun _ _ _ h => h) (Or.inl ⟨by rfl, ?_⟩) hS ?_
    rotate_left
    · (intro w hSw; have hSw := (HSd.out w).1 hSw; go_split_ands; go_simp) <;> with_reducible rfl
    clear hS
    try simp only [Act.put, List.setIfInBounds_toArray, List.set_cons_zero, List.set_cons_succ]
    refine wpAnyH_ready (rs := [28]) (by kernel_rfl) (by simp) ?_
    refine AllReadyH.cons (o := { dst := some 98, op := Go.Op.call { callee := Go.Callee.value (Go.Operand.func 49), args := #[Go.Operand.tmp 94, Go.Operand.tmp 95, Go.Operand.tmp 96, Go.Operand.tmp 97], argTypes := #[51, 2, 32, 61] }, type := 4, pos := "laws.go:1728", after := #[{ on := 24, ground := Go.Ground.data }, { on := 25, ground := Go.Ground.data }, { on := 26, ground := Go.Ground.data }, { on := 27, ground := Go.Ground.data }, { on := 23, ground := Go.Ground.chain }, { on := 23, ground := Go.Ground.guard }], guard := some (23, false) }) rfl (fun Kn hK => ?_) AllReadyH.nil
    first | go_at_call 49 | (go_simp; go_at_call 49)
    (with_reducible refine Calls.mono (KI.out _ _ _ _ _ (HP.out.on HW.out).at_) ?_)
    rintro e V1 ⟨rfl, hb⟩
    try dsimp only
    try simp only [Act.put, List.setIfInBounds_toArray, List.set_cons_zero, List.set_cons_succ]
    replace bX := bX.on hb
    replace bY := bY.on hb
    replace bF := bF.on hb
    replace bG := bG.on hb
    replace bA := bA.on hb
    replace bD := bD.on hb
    replace bS := bS.on hb
    replace HW := Lib.hid (bel_end HW.out hb)
    clear hb
    refine hK.out _ _ (HSp.out _ bX bY bF bG bA bD bS) (fun _ => ?_)
    clear hK Kn
    refine wpAnyH_ready (rs := [33]) (by kernel_rfl) (by simp) ?_
    refine AllReadyH.cons (o := { dst := some 103, op := Go.Op.call { callee := Go.Callee.value (Go.Operand.func 54), args := #[Go.Operand.tmp 99, Go.Operand.tmp 100, Go.Operand.tmp 101, Go.Operand.tmp 102], argTypes := #[51, 2, 32, 61] }, type := 4, pos := "laws.go:1728", after := #[{ on := 29, ground := Go.Ground.data }, { on := 30, ground := Go.Ground.data }, { on := 31, ground := Go.Ground.data }, { on := 32, ground := Go.Ground.data }, { on := 28, ground := Go.Ground.chain }, { on := 23, ground := Go.Ground.guard }], guard := some (23, false) }) rfl (fun Kn hK => ?_) AllReadyH.nil
    first | go_at_call 54 | (go_simp; go_at_call 54)
    (with_reducible refine Calls.mono (KJ.out _ _ _ _ _ (HP.out.on HW.out).at_) ?_)
    rintro e V2 ⟨rfl, hb⟩
    try dsimp only
    try simp only [Act.put, List.setIfInBounds_toArray, List.set_cons_zero, List.set_cons_succ]
    replace bX := bX.on hb
    replace bY := bY.on hb
    replace bF := bF.on hb
    replace bG := bG.on hb
    replace bA := bA.on hb
    replace bD := bD.on hb
    replace bS := bS.on hb
    replace HW := Lib.hid (bel_end HW.out hb)
    clear hb
    refine hK.out _ _ (HSp.out _ bX bY bF bG bA bD bS) (fun _ => ?_)
    clear hK Kn
    have hS := HSp.out _ bX bY bF bG bA bD bS
    refine wpAnyH_take (i := 34) (oi := { dst := some 104, op := Go.Op.binOp Go.BinOp.neq 4 (Go.Operand.tmp 98) (Go.Operand.tmp 103) 4, type := 4, pos := "laws.go:1728", after := #[{ on := 28, ground := Go.Ground.data }, { on := 33, ground := Go.Ground.data }, { on := 23, ground := Go.Ground.guard }], guard := some (23, false) }) (v := ?_) rfl (by kernel_rfl) (by kernel_rfl) (by kernel_rfl) (fun _ _ _ h => h) (Or.inl ⟨by rfl, ?_⟩) hS ?_
    rotate_left
    · (intro w hSw; have hSw := (HSd.out w).1 hSw; go_split_ands; go_simp) <;> with_reducible rfl
    clear hS
    try simp only [Act.put, List.setIfInBounds_toArray, List.set_cons_zero, List.set_cons_succ]
    have hS := HSp.out _ bX bY bF bG bA bD bS
    refine wpAnyH_take (i := 35) (oi := { dst := some 105, op := Go.Op.pick (Go.Operand.tmp 93) (Go.Operand.const (Go.Value.bool true)) (Go.Operand.tmp 104), type := 4, pos := "laws.go:1728", after := #[{ on := 23, ground := Go.Ground.data }, { on := 34, ground := Go.Ground.data }], guard := none }) (v := ?_) rfl (by kernel_rfl) (by kernel_rfl) (by kernel_rfl) (fun _ _ _ h => h) (Or.inl ⟨by rfl, ?_⟩) hS ?_
    rotate_left
    · (intro w hSw; have hSw := (HSd.out w).1 hSw; go_split_ands; go_simp) <;> with_reducible rfl
    clear hS
    try simp only [Act.put, List.setIfInBounds_toArray, List.set_cons_zero, List.set_cons_succ]
    refine wpAnyH_done (by kernel_rfl) ?_ _
    go_wp2_with fail
    go_meet
    exact ⟨rfl, HW.out⟩
  case rest =>
    obtain ⟨rfl, hb⟩ := hcut
    obtain ⟨WR, hwc⟩ : ∃ X, X = wc := ⟨_, rfl⟩
    rw [← hwc] at hb ⊢
    clear hwc
    replace bA := bA.on hb
    replace bD := bD.on hb
    replace bS := bS.on hb
    replace bX := bX.on hb
    replace bY := bY.on hb
    replace bB := bB.on hb
    replace bE := bE.on hb
    replace bF := bF.on hb
    replace bG := bG.on hb
    replace HP := Lib.hid (HP.out.on hb)
    replace HQ := Lib.hid (HQ.out.on hb)
    replace HB := Lib.hid (bel_end HB.out hb)
    clear hb hEQ hEF KI KJ
    clear bY
    clear bF
    clear bG
    clear bB
    clear bE
    by_cases h1 : qq = 0
    case neg =>
      have h1b : (qq != 0) = true := by simpa using h1
      go_wp2
      go_ret
      exact ⟨rfl, HB.out⟩
    case pos =>
      subst h1
      have hTT := HT.out
      obtain ⟨r34, rev, r12⟩ := rs_fact hTT
      clear hTT HT
      have R34 := Lib.hid r34
      have R12 := Lib.hid r12
      clear r34 r12
      by_cases h34 : ev = 3 ∨ ev = 4
      case pos =>
        obtain ⟨rfl, rfl, rfl, rfl⟩ := R34.out h34
        have hEQ : ∀ w : World, _ := fun w => eq_rsx w K2 l2 h2 (!dn)
        clear R12 R34 rev
        rcases h34 with rfl | rfl
        all_goals
          have bA_0 := bA.cell 0 rfl
          have bA_1 := bA.cell 1 rfl
          have bA_l := bA.lt
          have bD_0 := bD.cell 0 rfl
          have bD_1 := bD.cell 1 rfl
          have bD_2 := bD.cell 2 rfl
          have bD_l := bD.lt
          have bS_0 := bS.cell 0 rfl
          have bS_1 := bS.cell 1 rfl
          have bS_2 := bS.cell 2 rfl
          have bS_3 := bS.cell 3 rfl
          have bS_l := bS.lt
          have bX_0 := bX.cell 0 rfl
          have bX_1 := bX.cell 1 rfl
          have bX_2 := bX.cell 2 rfl
          have bX_3 := bX.cell 3 rfl
          have bX_l := bX.lt
          go_wp2
          go_ret
          exact ⟨rfl, HB.out⟩
      case neg =>
        have h12 : ev = 1 ∨ ev = 2 := by omega
        have hR := R12.out h12
        clear R12 R34 rev h34
        have KB : Hid (∀ (w : World) (a b : Option Addr) (c_ d_ : Nat), Prof w w.heap.size a b zs ys → Calls Try.prog 48 #[.agg #[.slice a zs.length c_, .slice b ys.length d_], .int .i64 sr, .agg #[.int .i64 c, .int .i64 s, .int .i64 h], .agg #[.int .i64 K2, .bool (!d2), .int .i64 lo, .int .i64 hi]] w fun e w' => e = .returned (.tuple #[.agg #[.int .i64 K, .bool (!dn), .int .i64 l2, .int .i64 h2], .int .i64 ev, .int .i64 0]) ∧ Below w.heap.size w w') := Lib.hid (fun w a b c_ d_ hp => by have := isr_any w a b c_ d_ zs ys sr c s h K2 lo hi (!d2) hp; rw [hR] at this; exact this)
        clear hR
        have e3 : (ev == 3) = false := by simp; omega
        have e4 : (ev == 4) = false := by simp; omega
        have bA_0 := bA.cell 0 rfl
        have bA_1 := bA.cell 1 rfl
        have bA_l := bA.lt
        have bD_0 := bD.cell 0 rfl
        have bD_1 := bD.cell 1 rfl
        have bD_2 := bD.cell 2 rfl
        have bD_l := bD.lt
        have bS_0 := bS.cell 0 rfl
        have bS_1 := bS.cell 1 rfl
        have bS_2 := bS.cell 2 rfl
        have bS_3 := bS.cell 3 rfl
        have bS_l := bS.lt
        have bX_0 := bX.cell 0 rfl
        have bX_1 := bX.cell 1 rfl
        have bX_2 := bX.cell 2 rfl
        have bX_3 := bX.cell 3 rfl
        have bX_l := bX.lt
        go_wp2_with fail
        clear bA_0 bA_1 bA_l bD_0 bD_1 bD_2 bD_l bS_0 bS_1 bS_2 bS_3 bS_l bX_0 bX_1 bX_2 bX_3 bX_l
        refine (KB.out _ _ _ _ _ HP.out.at_).mono ?_
        rintro e w13 ⟨rfl, hb⟩
        replace bA := bA.on hb
        replace bD := bD.on hb
        replace bS := bS.on hb
        replace bX := bX.on hb
        replace HP := Lib.hid (HP.out.on hb)
        replace HQ := Lib.hid (HQ.out.on hb)
        replace HB := Lib.hid (bel_end HB.out hb)
        clear hb
        have hEQ : ∀ w : World, _ := fun w => eq_rsx w K l2 h2 (!dn)
        clear KB e3 e4
        have bA_0 := bA.cell 0 rfl
        have bA_1 := bA.cell 1 rfl
        have bA_l := bA.lt
        have bD_0 := bD.cell 0 rfl
        have bD_1 := bD.cell 1 rfl
        have bD_2 := bD.cell 2 rfl
        have bD_l := bD.lt
        have bS_0 := bS.cell 0 rfl
        have bS_1 := bS.cell 1 rfl
        have bS_2 := bS.cell 2 rfl
        have bS_3 := bS.cell 3 rfl
        have bS_l := bS.lt
        have bX_0 := bX.cell 0 rfl
        have bX_1 := bX.cell 1 rfl
        have bX_2 := bX.cell 2 rfl
        have bX_3 := bX.cell 3 rfl
        have bX_l := bX.lt
        go_upto_region 16 with fail
        clear bA_0 bA_1 bA_l bD_0 bD_1 bD_2 bD_l bS_0 bS_1 bS_2 bS_3 bS_l bX_0 bX_1 bX_2 bX_3 bX_l
        obtain ⟨W14, hW⟩ : ∃ W, W = (w13.alloc (.cells #[.int .i64 K, .bool (!dn), .int .i64 l2, .int .i64 h2] 61)) := ⟨_, rfl⟩
        have hb : Below w13.heap.size w13 W14 := by rw [hW]; exact (by repeat (first | exact Below.refl _ _ | (refine Below.alloc ?_ (by simp <;> omega) _) | (refine Below.setCell ?_ (by simp <;> omega) _) | (refine Below.drew ?_) | (refine bel_drewN ?_ _)))
        have bW : Bk W14 (w13.heap.size) #[.int .i64 K, .bool (!dn), .int .i64 l2, .int .i64 h2] 61 := by rw [hW]; exact (Bk.new' (by simp))
        replace bA := bA.on hb
        replace bD := bD.on hb
        replace bS := bS.on hb
        replace bX := bX.on hb
        replace HP := Lib.hid (HP.out.on hb)
        replace HQ := Lib.hid (HQ.out.on hb)
        replace HB := Lib.hid (bel_end HB.out hb)
        rw [← hW]
        clear hW hb
        rcases h12 with rfl | rfl
        all_goals
          have bA_0 := bA.cell 0 rfl
          have bA_1 := bA.cell 1 rfl
          have bA_l := bA.lt
          have bD_0 := bD.cell 0 rfl
          have bD_1 := bD.cell 1 rfl
          have bD_2 := bD.cell 2 rfl
          have bD_l := bD.lt
          have bS_0 := bS.cell 0 rfl
          have bS_1 := bS.cell 1 rfl
          have bS_2 := bS.cell 2 rfl
          have bS_3 := bS.cell 3 rfl
          have bS_l := bS.lt
          have bX_0 := bX.cell 0 rfl
          have bX_1 := bX.cell 1 rfl
          have bX_2 := bX.cell 2 rfl
          have bX_3 := bX.cell 3 rfl
          have bX_l := bX.lt
          have bW_0 := bW.cell 0 rfl
          have bW_1 := bW.cell 1 rfl
          have bW_2 := bW.cell 2 rfl
          have bW_3 := bW.cell 3 rfl
          have bW_l := bW.lt
          go_wp2
          go_ret
          exact ⟨rfl, HB.out⟩
end Go.Proofs.Ytaaklnabomhleaa
