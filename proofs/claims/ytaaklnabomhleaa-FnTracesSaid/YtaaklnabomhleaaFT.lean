/- The walk of the law of traces. -/
import Derived.Test.YtaaklnabomhleaaD7
import Derived.Test.YtaaklnabomhleaaRyI
import Derived.Test.YtaaklnabomhleaaRyZ
import Derived.Test.YtaaklnabomhleaaLkr
import Derived.Test.YtaaklnabomhleaaIvL
import Derived.Test.YtaaklnabomhleaaLys
import Derived.Deep.RegionHeld3
import Derived.Deep.DeepCutAuto
import Derived.Deep.RegionWith
import Derived.BigQuiet
import Derived.LoopTactic
import Derived.Handy
import Derived.Outline
namespace Go.Proofs.Ytaaklnabomhleaa
open Go.ChangeShapes Go.WideShapes Go.ChangeAt Go.RowKit Go.Shelf Num
set_option linter.unusedVariables false
attribute [local go_sem ↓] Go.wp_at_zero Go.wp_at_succ
theorem eq_rs (w : World) (a c d : Int) (b : Bool) : (Op.equal 61 (.agg #[.int .i64 a, .bool b, .int .i64 c, .int .i64 d]) (.agg #[.int .i64 a, .bool b, .int .i64 c, .int .i64 d])).run Try.prog w = .ok true w := by
  show (Op.equalIn 10000 61 (.agg #[.int .i64 a, .bool b, .int .i64 c, .int .i64 d]) (.agg #[.int .i64 a, .bool b, .int .i64 c, .int .i64 d])).run Try.prog w = _
  cases b <;> simp [go_sem]
theorem eq_iv (w : World) (a b : Int) : (Op.equal 48 (.agg #[.int .i64 a, .int .i64 b]) (.agg #[.int .i64 a, .int .i64 b])).run Try.prog w = .ok true w := by
  show (Op.equalIn 10000 48 (.agg #[.int .i64 a, .int .i64 b]) (.agg #[.int .i64 a, .int .i64 b])).run Try.prog w = _
  simp [go_sem]

theorem tr_all {zs ys : List Int} {sr c s h n : Int} (e : tcod zs ys sr c s h n = 0) {LL : List Int} {RR : List (Int × Int)} {s0 s2 s3 : Int} {s1 : Bool} (hL : trL zs ys sr c s h n = LL) (hS : trS zs ys sr c s h n = (s0, s1, s2, s3)) (hR : trR zs ys sr c s h n = RR) :
    ∃ (i N : Nat) (dd : Bool), N ≤ 100 ∧ LL.length = N ∧ RR.length = N ∧ runS zs ys i c h (fst0 i s) N = ⟨s0.toNat, s1, s2, s3⟩ ∧ 0 ≤ s0 ∧ runS zs ys i c h (fst0 i s) 0 = ⟨i, dd, 0, 0⟩ ∧ fsT zs ys sr c s h = ((i : Int), dd, 0, 0, 0) ∧ (∀ k, k < N → ∀ (k1 : Nat) (d1 : Bool) (l1 h1 : Int) (k2 : Nat) (d2 : Bool) (l2 h2 : Int), runS zs ys i c h (fst0 i s) k = ⟨k1, d1, l1, h1⟩ → runS zs ys i c h (fst0 i s) (k + 1) = ⟨k2, d2, l2, h2⟩ → ∃ ev : Int, sryT zs ys sr c s h (k1 : Int) d1 l1 h1 = ((k2 : Int), d2, l2, h2, ev, 0) ∧ eosT zs ys sr c s h (k2 : Int) l2 h2 = 0 ∧ l1 ≤ l2 ∧ h1 ≤ h2 ∧ LL.getD k 0 = ev ∧ RR.getD k (0, 0) = (l2, h2)) := by
  obtain ⟨i, N, rfl, rfl, hN, f1, f2, f3⟩ := tr_fact e
  unfold trL at hL
  unfold trS at hS
  unfold trR at hR
  rw [if_pos e, Int.toNat_natCast, Int.toNat_natCast] at hL hS hR
  subst hL hR
  simp only [Prod.mk.injEq] at hS
  obtain ⟨q0, q1, q2, q3⟩ := hS
  refine ⟨i, N, _, hN, evL_len .., rgL_len .., ?_, by omega, f2, f1, ?_⟩
  · rw [← q0, ← q1, ← q2, ← q3, Int.toNat_natCast]
  · intro k hk k1 d1 l1 h1 k2 d2 l2 h2 e1 e2
    obtain ⟨g1, g2, g3, g4⟩ := f3 k hk
    rw [e1, e2] at g1 g3 g4
    rw [e2] at g2
    refine ⟨_, g1, g2, g3, g4, ?_, ?_⟩
    · unfold evL
      rw [List.getD_eq_getElem?_getD, List.getElem?_map, List.getElem?_range hk]
      show evV zs ys i c h (runS zs ys i c h (fst0 i s) k).k (runS zs ys i c h (fst0 i s) k).dn = _
      rw [e1]
    · unfold rgL
      rw [List.getD_eq_getElem?_getD, List.getElem?_map, List.getElem?_range hk]
      show ((runS zs ys i c h (fst0 i s) (k + 1)).lo, (runS zs ys i c h (fst0 i s) (k + 1)).hi) = _
      rw [e2]

set_option maxRecDepth 100000 in
set_option maxHeartbeats 16000000 in
theorem ltcs (a0 : Option Addr) (len0 cap0 : Nat) (z0 : List Int) (w : World) (w0 : IsRow .u8 w a0 len0 cap0 z0) :
    Calls Try.prog 9 #[.slice a0 len0 cap0] w fun e w' => e = .returned (.bool true) ∧ Below w.heap.size w w' := by
  obtain ⟨hln, hc⟩ := Code8.of_row w0
  clear w0
  obtain ⟨cs, hcs⟩ : ∃ cs, z0.take len0 = cs := ⟨_, rfl⟩
  rw [hcs] at hln hc
  subst hln
  clear hcs
  have HC := Lib.hid hc
  clear hc
  by_cases hbig : 4096 < (cs.length : Int)
  · have HB0 : Hid (decide (4096 < (cs.length : Int)) = true) := Lib.hid (decide_eq_true hbig)
    clear hbig
    go_enter Try.func9, Try.ntmps9
    go_wp2_with fail
    refine (big_any _ _ _ _).mono ?_
    rw [HB0.out]
    rintro e w1 ⟨rfl, rfl⟩
    go_wp2
    go_ret
    exact ⟨rfl, Below.refl _ _⟩
  have HB0 : Hid (decide (4096 < (cs.length : Int)) = false) := Lib.hid (decide_eq_false hbig)
  clear hbig
  go_enter Try.func9, Try.ntmps9
  go_wp2_with fail
  refine (big_any _ _ _ _).mono ?_
  rw [HB0.out]
  rintro e w1 ⟨rfl, hw1⟩
  subst hw1
  go_wp2_with fail
  refine (d7t_any _ _ _ cs HC.out).mono ?_
  rintro e w1 ⟨aP, bP, cP, dP, zs, ys, sr, c, s, h, n, rfl, hp, ⟨hn1, hn2⟩, hb⟩
  have HB := Lib.hid hb
  have HP := Lib.hid hp.n
  clear hp
  obtain ⟨LL, hL⟩ : ∃ U, trL zs ys sr c s h n = U := ⟨_, rfl⟩
  obtain ⟨⟨s0, s1, s2, s3⟩, hS⟩ : ∃ U, trS zs ys sr c s h n = U := ⟨_, rfl⟩
  obtain ⟨RR, hR⟩ : ∃ U, trR zs ys sr c s h n = U := ⟨_, rfl⟩
  obtain ⟨qq, hq⟩ : ∃ U, tcod zs ys sr c s h n = U := ⟨_, rfl⟩
  have l12 := trL_len zs ys sr c s h n
  have r12 := trR_len zs ys sr c s h n
  rw [hL] at l12
  rw [hR] at r12
  have KT : Hid (∀ (w : World) (a b : Option Addr) (c_ d_ : Nat), Prof w w.heap.size a b zs ys → Calls Try.prog 41 #[.agg #[.slice a zs.length c_, .slice b ys.length d_], .int .i64 sr, .agg #[.int .i64 c, .int .i64 s, .int .i64 h], .int .i64 n] w fun e w' => ∃ (a' : Option Addr) (c' : Nat), e = .returned (.tuple #[.slice a' LL.length c', .agg #[.int .i64 s0, .bool s1, .int .i64 s2, .int .i64 s3], .int .i64 qq]) ∧ OwnA w' w.heap.size w'.heap.size a' c' LL ∧ Below w.heap.size w w') := Lib.hid (fun w a b c_ d_ hp => by have := itr_any w a b c_ d_ zs ys sr c s h n hp; rw [hL, hS, hq] at this; exact this)
  have KU : Hid (∀ (w : World) (a b : Option Addr) (c_ d_ : Nat), Prof w w.heap.size a b zs ys → Calls Try.prog 42 #[.agg #[.slice a zs.length c_, .slice b ys.length d_], .int .i64 sr, .agg #[.int .i64 c, .int .i64 s, .int .i64 h], .int .i64 n] w fun e w' => ∃ (a' : Option Addr) (c' : Nat), e = .returned (.tuple #[.slice a' LL.length c', .agg #[.int .i64 s0, .bool s1, .int .i64 s2, .int .i64 s3], .int .i64 qq]) ∧ OwnA w' w.heap.size w'.heap.size a' c' LL ∧ Below w.heap.size w w') := Lib.hid (fun w a b c_ d_ hp => by have := str_any w a b c_ d_ zs ys sr c s h n hp; rw [hL, hS, hq] at this; exact this)
  have KR : Hid (∀ (w : World) (a b : Option Addr) (c_ d_ : Nat), Prof w w.heap.size a b zs ys → Calls Try.prog 43 #[.agg #[.slice a zs.length c_, .slice b ys.length d_], .int .i64 sr, .agg #[.int .i64 c, .int .i64 s, .int .i64 h], .int .i64 n] w fun e w' => ∃ (a' : Option Addr) (c' : Nat), e = .returned (.tuple #[.slice a' RR.length c', .int .i64 qq]) ∧ OwnI w' w.heap.size w'.heap.size a' c' RR ∧ Below w.heap.size w w') := Lib.hid (fun w a b c_ d_ hp => by have := irg_any w a b c_ d_ zs ys sr c s h n hp; rw [hR, hq] at this; exact this)
  have KV : Hid (∀ (w : World) (a b : Option Addr) (c_ d_ : Nat), Prof w w.heap.size a b zs ys → Calls Try.prog 44 #[.agg #[.slice a zs.length c_, .slice b ys.length d_], .int .i64 sr, .agg #[.int .i64 c, .int .i64 s, .int .i64 h], .int .i64 n] w fun e w' => ∃ (a' : Option Addr) (c' : Nat), e = .returned (.tuple #[.slice a' RR.length c', .int .i64 qq]) ∧ OwnI w' w.heap.size w'.heap.size a' c' RR ∧ Below w.heap.size w w') := Lib.hid (fun w a b c_ d_ hp => by have := srg_any w a b c_ d_ zs ys sr c s h n hp; rw [hR, hq] at this; exact this)
  have FF : Hid (qq = 0 → ∃ (i N : Nat) (dd : Bool), N ≤ 100 ∧ LL.length = N ∧ RR.length = N ∧ runS zs ys i c h (fst0 i s) N = ⟨s0.toNat, s1, s2, s3⟩ ∧ 0 ≤ s0 ∧ runS zs ys i c h (fst0 i s) 0 = ⟨i, dd, 0, 0⟩ ∧ fsT zs ys sr c s h = ((i : Int), dd, 0, 0, 0) ∧ (∀ k, k < N → ∀ (k1 : Nat) (d1 : Bool) (l1 h1 : Int) (k2 : Nat) (d2 : Bool) (l2 h2 : Int), runS zs ys i c h (fst0 i s) k = ⟨k1, d1, l1, h1⟩ → runS zs ys i c h (fst0 i s) (k + 1) = ⟨k2, d2, l2, h2⟩ → ∃ ev : Int, sryT zs ys sr c s h (k1 : Int) d1 l1 h1 = ((k2 : Int), d2, l2, h2, ev, 0) ∧ eosT zs ys sr c s h (k2 : Int) l2 h2 = 0 ∧ l1 ≤ l2 ∧ h1 ≤ h2 ∧ LL.getD k 0 = ev ∧ RR.getD k (0, 0) = (l2, h2))) := Lib.hid (fun h0 => tr_all (hq.trans h0) hL hS hR)
  clear hL hS hR hq hn1 hn2
  clear hb
  go_wp2_with fail
  obtain ⟨W2, hW⟩ : ∃ W, W = ((w1.alloc (.cells #[.slice aP zs.length cP, .slice bP ys.length dP] 51)).alloc (.cells #[.int .i64 c, .int .i64 s, .int .i64 h] 32)) := ⟨_, rfl⟩
  have hb : Below w1.heap.size w1 W2 := by rw [hW]; exact (by repeat (first | exact Below.refl _ _ | (refine Below.alloc ?_ (by simp <;> omega) _) | (refine Below.setCell ?_ (by simp <;> omega) _) | (refine Below.drew ?_) | (refine bel_drewN ?_ _)))
  have bA : Bk W2 (w1.heap.size) #[.slice aP zs.length cP, .slice bP ys.length dP] 51 := by rw [hW]; exact ((Bk.new' (by simp)).alloc _)
  have bD : Bk W2 (w1.heap.size + 1) #[.int .i64 c, .int .i64 s, .int .i64 h] 32 := by rw [hW]; exact (Bk.new' (by simp))
  replace HP := Lib.hid (HP.out.on hb)
  replace HB := Lib.hid (bel_end HB.out hb)
  rw [← hW]
  clear hW hb
  have bA_0 := bA.cell 0 rfl
  have bA_1 := bA.cell 1 rfl
  have bA_l := bA.lt
  have bD_0 := bD.cell 0 rfl
  have bD_1 := bD.cell 1 rfl
  have bD_2 := bD.cell 2 rfl
  have bD_l := bD.lt
  refine (KT.out _ _ _ _ _ HP.out.at_).mono ?_
  rintro e w3 ⟨ea, ec, rfl, hs, hb⟩
  replace bA := bA.on hb
  replace bD := bD.on hb
  replace HP := Lib.hid (HP.out.on hb)
  replace HB := Lib.hid (bel_end HB.out hb)
  have HE := Lib.hid (IntL.of hs.ints)
  clear hs
  clear hb
  clear bA_0 bA_1 bA_l bD_0 bD_1 bD_2 bD_l
  have bA_0 := bA.cell 0 rfl
  have bA_1 := bA.cell 1 rfl
  have bA_l := bA.lt
  have bD_0 := bD.cell 0 rfl
  have bD_1 := bD.cell 1 rfl
  have bD_2 := bD.cell 2 rfl
  have bD_l := bD.lt
  go_wp2_with fail
  obtain ⟨W4, hW⟩ : ∃ W, W = (w3.alloc (.cells #[.int .i64 s0, .bool s1, .int .i64 s2, .int .i64 s3] 61)) := ⟨_, rfl⟩
  have hb : Below w3.heap.size w3 W4 := by rw [hW]; exact (by repeat (first | exact Below.refl _ _ | (refine Below.alloc ?_ (by simp <;> omega) _) | (refine Below.setCell ?_ (by simp <;> omega) _) | (refine Below.drew ?_) | (refine bel_drewN ?_ _)))
  have bX : Bk W4 (w3.heap.size) #[.int .i64 s0, .bool s1, .int .i64 s2, .int .i64 s3] 61 := by rw [hW]; exact (Bk.new' (by simp))
  replace bA := bA.on hb
  replace bD := bD.on hb
  replace HP := Lib.hid (HP.out.on hb)
  replace HE := Lib.hid (HE.out.on hb)
  replace HB := Lib.hid (bel_end HB.out hb)
  rw [← hW]
  clear bA_0 bA_1 bA_l bD_0 bD_1 bD_2 bD_l
  clear hW hb
  have bA_0 := bA.cell 0 rfl
  have bA_1 := bA.cell 1 rfl
  have bA_l := bA.lt
  have bD_0 := bD.cell 0 rfl
  have bD_1 := bD.cell 1 rfl
  have bD_2 := bD.cell 2 rfl
  have bD_l := bD.lt
  have bX_0 := bX.cell 0 rfl
  have bX_1 := bX.cell 1 rfl
  have bX_2 := bX.cell 2 rfl
  have bX_3 := bX.cell 3 rfl
  have bX_l := bX.lt
  refine (KU.out _ _ _ _ _ HP.out.at_).mono ?_
  rintro e w5 ⟨ma, mc, rfl, hs, hb⟩
  replace bA := bA.on hb
  replace bD := bD.on hb
  replace bX := bX.on hb
  replace HP := Lib.hid (HP.out.on hb)
  replace HE := Lib.hid (HE.out.on hb)
  replace HB := Lib.hid (bel_end HB.out hb)
  have HM := Lib.hid (IntL.of hs.ints)
  clear hs
  clear hb
  clear bA_0 bA_1 bA_l bD_0 bD_1 bD_2 bD_l bX_0 bX_1 bX_2 bX_3 bX_l
  have bA_0 := bA.cell 0 rfl
  have bA_1 := bA.cell 1 rfl
  have bA_l := bA.lt
  have bD_0 := bD.cell 0 rfl
  have bD_1 := bD.cell 1 rfl
  have bD_2 := bD.cell 2 rfl
  have bD_l := bD.lt
  have bX_0 := bX.cell 0 rfl
  have bX_1 := bX.cell 1 rfl
  have bX_2 := bX.cell 2 rfl
  have bX_3 := bX.cell 3 rfl
  have bX_l := bX.lt
  go_wp2_with fail
  obtain ⟨W6, hW⟩ : ∃ W, W = (w5.alloc (.cells #[.int .i64 s0, .bool s1, .int .i64 s2, .int .i64 s3] 61)) := ⟨_, rfl⟩
  have hb : Below w5.heap.size w5 W6 := by rw [hW]; exact (by repeat (first | exact Below.refl _ _ | (refine Below.alloc ?_ (by simp <;> omega) _) | (refine Below.setCell ?_ (by simp <;> omega) _) | (refine Below.drew ?_) | (refine bel_drewN ?_ _)))
  have bY : Bk W6 (w5.heap.size) #[.int .i64 s0, .bool s1, .int .i64 s2, .int .i64 s3] 61 := by rw [hW]; exact (Bk.new' (by simp))
  replace bA := bA.on hb
  replace bD := bD.on hb
  replace bX := bX.on hb
  replace HP := Lib.hid (HP.out.on hb)
  replace HE := Lib.hid (HE.out.on hb)
  replace HM := Lib.hid (HM.out.on hb)
  replace HB := Lib.hid (bel_end HB.out hb)
  rw [← hW]
  clear bA_0 bA_1 bA_l bD_0 bD_1 bD_2 bD_l bX_0 bX_1 bX_2 bX_3 bX_l
  clear hW hb
  have bA_0 := bA.cell 0 rfl
  have bA_1 := bA.cell 1 rfl
  have bA_l := bA.lt
  have bD_0 := bD.cell 0 rfl
  have bD_1 := bD.cell 1 rfl
  have bD_2 := bD.cell 2 rfl
  have bD_l := bD.lt
  have bX_0 := bX.cell 0 rfl
  have bX_1 := bX.cell 1 rfl
  have bX_2 := bX.cell 2 rfl
  have bX_3 := bX.cell 3 rfl
  have bX_l := bX.lt
  have bY_0 := bY.cell 0 rfl
  have bY_1 := bY.cell 1 rfl
  have bY_2 := bY.cell 2 rfl
  have bY_3 := bY.cell 3 rfl
  have bY_l := bY.lt
  refine (KR.out _ _ _ _ _ HP.out.at_).mono ?_
  rintro e w7 ⟨ra, rc, rfl, hs, hb⟩
  replace bA := bA.on hb
  replace bD := bD.on hb
  replace bX := bX.on hb
  replace bY := bY.on hb
  replace HP := Lib.hid (HP.out.on hb)
  replace HE := Lib.hid (HE.out.on hb)
  replace HM := Lib.hid (HM.out.on hb)
  replace HB := Lib.hid (bel_end HB.out hb)
  have HR := Lib.hid (IvsL.of hs.ivs)
  clear hs
  clear hb
  clear bA_0 bA_1 bA_l bD_0 bD_1 bD_2 bD_l bX_0 bX_1 bX_2 bX_3 bX_l bY_0 bY_1 bY_2 bY_3 bY_l
  have bA_0 := bA.cell 0 rfl
  have bA_1 := bA.cell 1 rfl
  have bA_l := bA.lt
  have bD_0 := bD.cell 0 rfl
  have bD_1 := bD.cell 1 rfl
  have bD_2 := bD.cell 2 rfl
  have bD_l := bD.lt
  have bX_0 := bX.cell 0 rfl
  have bX_1 := bX.cell 1 rfl
  have bX_2 := bX.cell 2 rfl
  have bX_3 := bX.cell 3 rfl
  have bX_l := bX.lt
  have bY_0 := bY.cell 0 rfl
  have bY_1 := bY.cell 1 rfl
  have bY_2 := bY.cell 2 rfl
  have bY_3 := bY.cell 3 rfl
  have bY_l := bY.lt
  go_wp2_with fail
  refine (KV.out _ _ _ _ _ HP.out.at_).mono ?_
  rintro e w8 ⟨va, vc, rfl, hs, hb⟩
  replace bA := bA.on hb
  replace bD := bD.on hb
  replace bX := bX.on hb
  replace bY := bY.on hb
  replace HP := Lib.hid (HP.out.on hb)
  replace HE := Lib.hid (HE.out.on hb)
  replace HM := Lib.hid (HM.out.on hb)
  replace HR := Lib.hid (HR.out.on hb)
  replace HB := Lib.hid (bel_end HB.out hb)
  have HV := Lib.hid (IvsL.of hs.ivs)
  clear hs
  clear hb
  clear bA_0 bA_1 bA_l bD_0 bD_1 bD_2 bD_l bX_0 bX_1 bX_2 bX_3 bX_l bY_0 bY_1 bY_2 bY_3 bY_l
  clear KT KU KR KV
  have bA_0 := bA.cell 0 rfl
  have bA_1 := bA.cell 1 rfl
  have bA_l := bA.lt
  have bD_0 := bD.cell 0 rfl
  have bD_1 := bD.cell 1 rfl
  have bD_2 := bD.cell 2 rfl
  have bD_l := bD.lt
  have bX_0 := bX.cell 0 rfl
  have bX_1 := bX.cell 1 rfl
  have bX_2 := bX.cell 2 rfl
  have bX_3 := bX.cell 3 rfl
  have bX_l := bX.lt
  have bY_0 := bY.cell 0 rfl
  have bY_1 := bY.cell 1 rfl
  have bY_2 := bY.cell 2 rfl
  have bY_3 := bY.cell 3 rfl
  have bY_l := bY.lt
  go_upto_region 8 with fail
  clear bA_0 bA_1 bA_l bD_0 bD_1 bD_2 bD_l bX_0 bX_1 bX_2 bX_3 bX_l bY_0 bY_1 bY_2 bY_3 bY_l
  have hEQ : ∀ w : World, _ := fun w => eq_rs w s0 s2 s3 s1
  have bA_0 := bA.cell 0 rfl
  have bA_1 := bA.cell 1 rfl
  have bA_l := bA.lt
  have bD_0 := bD.cell 0 rfl
  have bD_1 := bD.cell 1 rfl
  have bD_2 := bD.cell 2 rfl
  have bD_l := bD.lt
  have bX_0 := bX.cell 0 rfl
  have bX_1 := bX.cell 1 rfl
  have bX_2 := bX.cell 2 rfl
  have bX_3 := bX.cell 3 rfl
  have bX_l := bX.lt
  have bY_0 := bY.cell 0 rfl
  have bY_1 := bY.cell 1 rfl
  have bY_2 := bY.cell 2 rfl
  have bY_3 := bY.cell 3 rfl
  have bY_l := bY.lt
  go_wp2_with fail
  clear bA_0 bA_1 bA_l bD_0 bD_1 bD_2 bD_l bX_0 bX_1 bX_2 bX_3 bX_l bY_0 bY_1 bY_2 bY_3 bY_l
  refine (lki_any _ _ _ _ _ _ LL (by omega) HE.out.ints HM.out.ints).mono ?_
  rintro e w9 ⟨rfl, nn, hnn⟩
  have hb : Below w8.heap.size w8 w9 := by rw [hnn]; exact bel_drewN (Below.refl _ _) _
  clear hnn nn
  replace bA := bA.on hb
  replace bD := bD.on hb
  replace bX := bX.on hb
  replace bY := bY.on hb
  replace HP := Lib.hid (HP.out.on hb)
  replace HE := Lib.hid (HE.out.on hb)
  replace HM := Lib.hid (HM.out.on hb)
  replace HR := Lib.hid (HR.out.on hb)
  replace HV := Lib.hid (HV.out.on hb)
  replace HB := Lib.hid (bel_end HB.out hb)
  clear hb
  have bA_0 := bA.cell 0 rfl
  have bA_1 := bA.cell 1 rfl
  have bA_l := bA.lt
  have bD_0 := bD.cell 0 rfl
  have bD_1 := bD.cell 1 rfl
  have bD_2 := bD.cell 2 rfl
  have bD_l := bD.lt
  have bX_0 := bX.cell 0 rfl
  have bX_1 := bX.cell 1 rfl
  have bX_2 := bX.cell 2 rfl
  have bX_3 := bX.cell 3 rfl
  have bX_l := bX.lt
  have bY_0 := bY.cell 0 rfl
  have bY_1 := bY.cell 1 rfl
  have bY_2 := bY.cell 2 rfl
  have bY_3 := bY.cell 3 rfl
  have bY_l := bY.lt
  go_wp2_with fail
  clear bA_0 bA_1 bA_l bD_0 bD_1 bD_2 bD_l bX_0 bX_1 bX_2 bX_3 bX_l bY_0 bY_1 bY_2 bY_3 bY_l
  refine (lkr_any _ _ _ _ _ _ RR (by omega) HR.out.ivs HV.out.ivs).mono ?_
  rintro e w10 ⟨rfl, nn, hnn⟩
  have hb : Below w9.heap.size w9 w10 := by rw [hnn]; exact bel_drewN (Below.refl _ _) _
  clear hnn nn
  replace bA := bA.on hb
  replace bD := bD.on hb
  replace bX := bX.on hb
  replace bY := bY.on hb
  replace HP := Lib.hid (HP.out.on hb)
  replace HE := Lib.hid (HE.out.on hb)
  replace HM := Lib.hid (HM.out.on hb)
  replace HR := Lib.hid (HR.out.on hb)
  replace HV := Lib.hid (HV.out.on hb)
  replace HB := Lib.hid (bel_end HB.out hb)
  clear hb
  clear bY HE HV
  by_cases h1 : qq = 0
  case neg =>
    have h1b : (qq != 0) = true := by simpa using h1
    clear FF hEQ
    go_wp2
    go_ret
    exact ⟨rfl, HB.out⟩
  case pos =>
    obtain ⟨i, N, dd, hN, hlL, hlR, fN, fs0, f0, ff, FK⟩ := FF.out h1
    subst h1
    have FK := Lib.hid FK
    have HlL := Lib.hid hlL
    have HlR := Lib.hid hlR
    have F0 := Lib.hid f0
    have FN := Lib.hid fN
    try rw [hlL]
    try rw [hlR]
    clear FF hlL hlR f0 fN
    have KF : Hid (∀ (w : World) (a b : Option Addr) (c_ d_ : Nat), Prof w w.heap.size a b zs ys → Calls Try.prog 47 #[.agg #[.slice a zs.length c_, .slice b ys.length d_], .int .i64 sr, .agg #[.int .i64 c, .int .i64 s, .int .i64 h]] w fun e w' => e = .returned (.tuple #[.agg #[.int .i64 (i : Int), .bool dd, .int .i64 0, .int .i64 0], .int .i64 0]) ∧ Below w.heap.size w w') := Lib.hid (fun w a b c_ d_ hp => by have := ifs_st w a b c_ d_ zs ys sr c s h hp; rw [ff] at this; exact this)
    clear ff
    have bA_0 := bA.cell 0 rfl
    have bA_1 := bA.cell 1 rfl
    have bA_l := bA.lt
    have bD_0 := bD.cell 0 rfl
    have bD_1 := bD.cell 1 rfl
    have bD_2 := bD.cell 2 rfl
    have bD_l := bD.lt
    have bX_0 := bX.cell 0 rfl
    have bX_1 := bX.cell 1 rfl
    have bX_2 := bX.cell 2 rfl
    have bX_3 := bX.cell 3 rfl
    have bX_l := bX.lt
    go_wp2_with fail
    refine (KF.out _ _ _ _ _ HP.out.at_).mono ?_
    rintro e w11 ⟨rfl, hb⟩
    replace bA := bA.on hb
    replace bD := bD.on hb
    replace bX := bX.on hb
    replace HP := Lib.hid (HP.out.on hb)
    replace HM := Lib.hid (HM.out.on hb)
    replace HR := Lib.hid (HR.out.on hb)
    replace HB := Lib.hid (bel_end HB.out hb)
    clear KF
    clear hb
    clear bA_0 bA_1 bA_l bD_0 bD_1 bD_2 bD_l bX_0 bX_1 bX_2 bX_3 bX_l
    obtain ⟨WQ, hWQ⟩ : ∃ X, X = w11 := ⟨_, rfl⟩
    rw [← hWQ] at bA bD bX HP HM HR HB ⊢
    clear hWQ
    have bA_0 := bA.cell 0 rfl
    have bA_1 := bA.cell 1 rfl
    have bA_l := bA.lt
    have bD_0 := bD.cell 0 rfl
    have bD_1 := bD.cell 1 rfl
    have bD_2 := bD.cell 2 rfl
    have bD_l := bD.lt
    have bX_0 := bX.cell 0 rfl
    have bX_1 := bX.cell 1 rfl
    have bX_2 := bX.cell 2 rfl
    have bX_3 := bX.cell 3 rfl
    have bX_l := bX.lt
    go_wp2_with fail
    clear bA_0 bA_1 bA_l bD_0 bD_1 bD_2 bD_l bX_0 bX_1 bX_2 bX_3 bX_l
    try rw [HlL.out]
    try rw [HlR.out]
    have bZ : Bk (WQ.alloc (.cells #[.int .i64 (i : Int), .bool dd, .int .i64 0, .int .i64 0] 61)) WQ.heap.size #[.int .i64 (i : Int), .bool dd, .int .i64 0, .int .i64 0] 61 := Bk.new' rfl
    go_loopw [19] (fun v wr => ∃ (k k1 : Nat) (d1 : Bool) (l1 h1 : Int), v = .int .i64 (k : Int) ∧ k ≤ N ∧ runS zs ys i c h (fst0 i s) k = ⟨k1, d1, l1, h1⟩ ∧ Bk wr WQ.heap.size #[.int .i64 (k1 : Int), .bool d1, .int .i64 l1, .int .i64 h1] 61 ∧ Below WQ.heap.size WQ wr) (fun v _ => N - (intOf v).toNat)
    case atStart => exact ⟨0, i, dd, 0, 0, by simp, by omega, F0.out, bZ, (Below.refl _ _).alloc (Nat.le_refl _) _⟩
    case round =>
      clear bZ
      obtain ⟨k, k1, d1, l1, h1, rfl, hk, hX, bZ, hb⟩ := hrel
      have HX := Lib.hid hX
      have HQ := Lib.hid hb
      clear hX
      replace bA := bA.on hb
      replace bD := bD.on hb
      replace bX := bX.on hb
      clear hb
      by_cases hkN : k < N
      case neg =>
        obtain rfl : k = N := by omega
        have hkk : ¬ (k : Int) < (k : Int) := by omega
        have e0 := HX.out.symm.trans FN.out
        simp only [RSt.mk.injEq] at e0
        obtain ⟨q0, rfl, rfl, rfl⟩ := e0
        have q1 : (k1 : Int) = s0 := by omega
        rw [q1] at bZ
        clear q0 q1 HX FN HlL HlR FK F0 hkN
        have bZ_0 := bZ.cell 0 rfl
        have bZ_1 := bZ.cell 1 rfl
        have bZ_2 := bZ.cell 2 rfl
        have bZ_3 := bZ.cell 3 rfl
        have bX_0 := bX.cell 0 rfl
        have bX_1 := bX.cell 1 rfl
        have bX_2 := bX.cell 2 rfl
        have bX_3 := bX.cell 3 rfl
        have HB2 := Lib.hid (bel_end HB.out HQ.out)
        go_wp2
        go_ret
        exact ⟨rfl, HB2.out⟩
      case pos =>
        have ik : (k : Int) < (N : Int) := by omega
        obtain ⟨⟨k2, d2, l2, h2⟩, hX2⟩ : ∃ x, runS zs ys i c h (fst0 i s) (k + 1) = x := ⟨_, rfl⟩
        obtain ⟨ev, g1, g2, g3, g4, g5, g6⟩ := FK.out k hkN _ _ _ _ _ _ _ _ HX.out hX2
        have KS : Hid (∀ (w : World) (a b : Option Addr) (c_ d_ : Nat), Prof w w.heap.size a b zs ys → Calls Try.prog 48 #[.agg #[.slice a zs.length c_, .slice b ys.length d_], .int .i64 sr, .agg #[.int .i64 c, .int .i64 s, .int .i64 h], .agg #[.int .i64 (k1 : Int), .bool d1, .int .i64 l1, .int .i64 h1]] w fun e w' => e = .returned (.tuple #[.agg #[.int .i64 (k2 : Int), .bool d2, .int .i64 l2, .int .i64 h2], .int .i64 ev, .int .i64 0]) ∧ Below w.heap.size w w') := Lib.hid (fun w a b c_ d_ hp => by have := isr_any w a b c_ d_ zs ys sr c s h (k1 : Int) l1 h1 d1 hp; rw [g1] at this; exact this)
        have KI : Hid (∀ (w : World) (a b : Option Addr) (c_ d_ : Nat), Prof w w.heap.size a b zs ys → Calls Try.prog 49 #[.agg #[.slice a zs.length c_, .slice b ys.length d_], .int .i64 sr, .agg #[.int .i64 c, .int .i64 s, .int .i64 h], .agg #[.int .i64 (k2 : Int), .bool d2, .int .i64 l2, .int .i64 h2]] w fun e w' => e = .returned (.bool true) ∧ Below w.heap.size w w') := Lib.hid (fun w a b c_ d_ hp => by have := irs_any w a b c_ d_ zs ys sr c s h (k2 : Int) l2 h2 d2 hp; rw [g2] at this; exact this)
        obtain ⟨eb, eo, rfl, heB, hec⟩ := (HM.out.on HQ.out).ints (by have := HlL.out; omega)
        have ea_ := hec k (by have := HlL.out; omega)
        rw [g5] at ea_
        obtain ⟨rb, ro, rfl, hrB, hrc⟩ := (HR.out.on HQ.out).ivs (by have := HlR.out; omega)
        obtain ⟨ra_, rb_⟩ := hrc k (by have := HlR.out; omega)
        rw [g6] at ra_ rb_
        dsimp only at ra_ rb_
        have HX2 := Lib.hid hX2
        clear g1 g2 g5 g6 hec hrc heB hrB hX2
        have dl : decide (l2 < l1) = false := decide_eq_false (by omega)
        have dh : decide (h2 < h1) = false := decide_eq_false (by omega)
        have nl : ¬ l2 < l1 := by omega
        have nh : ¬ h2 < h1 := by omega
        have bA_0 := bA.cell 0 rfl
        have bA_1 := bA.cell 1 rfl
        have bD_0 := bD.cell 0 rfl
        have bD_1 := bD.cell 1 rfl
        have bD_2 := bD.cell 2 rfl
        have bZ_0 := bZ.cell 0 rfl
        have bZ_1 := bZ.cell 1 rfl
        have bZ_2 := bZ.cell 2 rfl
        have bZ_3 := bZ.cell 3 rfl
        go_wp2_with fail
        clear bA_0 bA_1 bD_0 bD_1 bD_2 bZ_0 bZ_1 bZ_2 bZ_3
        (with_reducible refine Calls.mono (KS.out _ _ _ _ _ (HP.out.on HQ.out).at_) ?_)
        rintro e w2 ⟨rfl, hb⟩
        replace bA := bA.on hb
        replace bD := bD.on hb
        replace bX := bX.on hb
        replace bZ := bZ.on hb
        replace ea_ := kc1 ea_ hb
        replace ra_ := kc1 ra_ hb
        replace rb_ := kc1 rb_ hb
        replace HQ := Lib.hid (bel_end HQ.out hb)
        clear hb KS
        go_upto_region 19 with fail
        obtain ⟨W3, hW⟩ : ∃ W, W = w2.alloc (.cells #[.int .i64 (k2 : Int), .bool d2, .int .i64 l2, .int .i64 h2] 61) := ⟨_, rfl⟩
        rw [← hW]
        have bN : Bk W3 w2.heap.size #[.int .i64 (k2 : Int), .bool d2, .int .i64 l2, .int .i64 h2] 61 := by rw [hW]; exact Bk.new' rfl
        have hzN : WQ.heap.size ≠ w2.heap.size := by have := bZ.lt; omega
        have hb : Below w2.heap.size w2 W3 := by rw [hW]; exact (Below.refl _ _).alloc (Nat.le_refl _) _
        replace bA := bA.on hb
        replace bD := bD.on hb
        replace bX := bX.on hb
        replace bZ := bZ.on hb
        replace ea_ := kc1 ea_ hb
        replace ra_ := kc1 ra_ hb
        replace rb_ := kc1 rb_ hb
        replace HQ := Lib.hid (bel_end HQ.out hb)
        clear hb hW
        have hEI : ∀ w : World, _ := fun w => eq_iv w l2 h2
        go_cut [168] (fun s wx => s = .bool false ∧ Below W3.heap.size W3 wx)
        case first =>
          have HW : Hid (Below W3.heap.size W3 W3) := Lib.hid (Below.refl _ _)
          obtain ⟨S, hSd⟩ : ∃ S : World → Prop, ∀ w', S w' ↔ (w'.cell? ⟨w1.heap.size, 0, none⟩ = some (.slice aP zs.length cP) ∧ w'.cell? ⟨w1.heap.size, 1, none⟩ = some (.slice bP ys.length dP) ∧ w'.cell? ⟨w1.heap.size + 1, 0, none⟩ = some (.int .i64 c) ∧ w'.cell? ⟨w1.heap.size + 1, 1, none⟩ = some (.int .i64 s) ∧ w'.cell? ⟨w1.heap.size + 1, 2, none⟩ = some (.int .i64 h) ∧ w'.cell? ⟨WQ.heap.size, 0, none⟩ = some (.int .i64 (k1 : Int)) ∧ w'.cell? ⟨WQ.heap.size, 1, none⟩ = some (.bool d1) ∧ w'.cell? ⟨WQ.heap.size, 2, none⟩ = some (.int .i64 l1) ∧ w'.cell? ⟨WQ.heap.size, 3, none⟩ = some (.int .i64 h1) ∧ w'.cell? ⟨w2.heap.size, 0, none⟩ = some (.int .i64 (k2 : Int)) ∧ w'.cell? ⟨w2.heap.size, 1, none⟩ = some (.bool d2) ∧ w'.cell? ⟨w2.heap.size, 2, none⟩ = some (.int .i64 l2) ∧ w'.cell? ⟨w2.heap.size, 3, none⟩ = some (.int .i64 h2) ∧ w'.cell? ⟨eb, eo + k, none⟩ = some (.int .i64 ev) ∧ w'.cell? ⟨rb, ro + k * 2, none⟩ = some (.int .i64 l2) ∧ w'.cell? ⟨rb, ro + k * 2 + 1, none⟩ = some (.int .i64 h2)) := ⟨_, fun _ => Iff.rfl⟩
          have HSp : Hid (∀ w' : World, Bk w' (w1.heap.size) #[.slice aP zs.length cP, .slice bP ys.length dP] 51 → Bk w' (w1.heap.size + 1) #[.int .i64 c, .int .i64 s, .int .i64 h] 32 → Bk w' (WQ.heap.size) #[.int .i64 (k1 : Int), .bool d1, .int .i64 l1, .int .i64 h1] 61 → Bk w' (w2.heap.size) #[.int .i64 (k2 : Int), .bool d2, .int .i64 l2, .int .i64 h2] 61 → w'.cell? ⟨eb, eo + k, none⟩ = some (.int .i64 ev) → w'.cell? ⟨rb, ro + k * 2, none⟩ = some (.int .i64 l2) → w'.cell? ⟨rb, ro + k * 2 + 1, none⟩ = some (.int .i64 h2) → S w') := Lib.hid (fun w' bA bD bZ bN y0 y1 y2 => (hSd w').2 ⟨bA.cell 0 rfl, bA.cell 1 rfl, bD.cell 0 rfl, bD.cell 1 rfl, bD.cell 2 rfl, bZ.cell 0 rfl, bZ.cell 1 rfl, bZ.cell 2 rfl, bZ.cell 3 rfl, bN.cell 0 rfl, bN.cell 1 rfl, bN.cell 2 rfl, bN.cell 3 rfl, y0, y1, y2⟩)
          have HSd := Lib.hid hSd
          clear hSd
          refine wp_region_held_drew (S := S) (by kernel_rfl) ?_ (fun hH => ?_)
          · exact (HSp.out _ bA bD bZ bN ea_ ra_ rb_ : S (World.drew W3))
          clear hH
          generalize hX : World.drew W3 = V0
          replace bA : Bk V0 (w1.heap.size) #[.slice aP zs.length cP, .slice bP ys.length dP] 51 := by rw [← hX]; exact bA
          replace bD : Bk V0 (w1.heap.size + 1) #[.int .i64 c, .int .i64 s, .int .i64 h] 32 := by rw [← hX]; exact bD
          replace bZ : Bk V0 (WQ.heap.size) #[.int .i64 (k1 : Int), .bool d1, .int .i64 l1, .int .i64 h1] 61 := by rw [← hX]; exact bZ
          replace bN : Bk V0 (w2.heap.size) #[.int .i64 (k2 : Int), .bool d2, .int .i64 l2, .int .i64 h2] 61 := by rw [← hX]; exact bN
          have hb : Below W3.heap.size W3 V0 := by rw [← hX]; exact (Below.refl _ _).drew
          clear hX
          replace ea_ := kc1 ea_ hb
          replace ra_ := kc1 ra_ hb
          replace rb_ := kc1 rb_ hb
          replace HW := Lib.hid (bel_end HW.out hb)
          clear hb
          have hS := HSp.out _ bA bD bZ bN ea_ ra_ rb_
          refine wpAnyH_take (i := 0) (oi := { dst := some 124, op := Go.Op.move (Go.Operand.tmp 22), type := 2, pos := "laws.go:1709", after := #[], guard := none }) (v := ?_) rfl (by kernel_rfl) (by kernel_rfl) (by kernel_rfl) (fun _ _ _ h => h) (Or.inl ⟨by rfl, ?_⟩) hS ?_
          rotate_left
          · (intro w hSw; have hSw := (HSd.out w).1 hSw; go_split_ands; go_simp) <;> with_reducible rfl
          clear hS
          try simp only [Act.put, List.setIfInBounds_toArray, List.set_cons_zero, List.set_cons_succ]
          have hS := HSp.out _ bA bD bZ bN ea_ ra_ rb_
          refine wpAnyH_take (i := 1) (oi := { dst := some 125, op := Go.Op.binOp Go.BinOp.neq 2 (Go.Operand.tmp 124) (Go.Operand.const (Go.Value.int Go.IntKind.i64 0)) 2, type := 4, pos := "laws.go:1709", after := #[{ on := 0, ground := Go.Ground.data }], guard := none }) (v := ?_) rfl (by kernel_rfl) (by kernel_rfl) (by kernel_rfl) (fun _ _ _ h => h) (Or.inl ⟨by rfl, ?_⟩) hS ?_
          rotate_left
          · (intro w hSw; have hSw := (HSd.out w).1 hSw; go_split_ands; go_simp) <;> with_reducible rfl
          clear hS
          try simp only [Act.put, List.setIfInBounds_toArray, List.set_cons_zero, List.set_cons_succ]
          have hS := HSp.out _ bA bD bZ bN ea_ ra_ rb_
          refine wpAnyH_take (i := 2) (oi := { dst := some 126, op := Go.Op.move (Go.Operand.tmp 125), type := 4, pos := "laws.go:1709", after := #[{ on := 1, ground := Go.Ground.data }], guard := none }) (v := ?_) rfl (by kernel_rfl) (by kernel_rfl) (by kernel_rfl) (fun _ _ _ h => h) (Or.inl ⟨by rfl, ?_⟩) hS ?_
          rotate_left
          · (intro w hSw; have hSw := (HSd.out w).1 hSw; go_split_ands; go_simp) <;> with_reducible rfl
          clear hS
          try simp only [Act.put, List.setIfInBounds_toArray, List.set_cons_zero, List.set_cons_succ]
          have hS := HSp.out _ bA bD bZ bN ea_ ra_ rb_
          refine wpAnyH_take (i := 3) (oi := { dst := some 127, op := Go.Op.move (Go.Operand.tmp 21), type := 2, pos := "laws.go:1709", after := #[{ on := 2, ground := Go.Ground.guard }], guard := some (2, false) }) (v := ?_) rfl (by kernel_rfl) (by kernel_rfl) (by kernel_rfl) (fun _ _ _ h => h) (Or.inl ⟨by rfl, ?_⟩) hS ?_
          rotate_left
          · (intro w hSw; have hSw := (HSd.out w).1 hSw; go_split_ands; go_simp) <;> with_reducible rfl
          clear hS
          try simp only [Act.put, List.setIfInBounds_toArray, List.set_cons_zero, List.set_cons_succ]
          have hS := HSp.out _ bA bD bZ bN ea_ ra_ rb_
          refine wpAnyH_take (i := 4) (oi := { dst := some 128, op := Go.Op.move (Go.Operand.tmp 10), type := 43, pos := "laws.go:1709", after := #[{ on := 2, ground := Go.Ground.guard }], guard := some (2, false) }) (v := ?_) rfl (by kernel_rfl) (by kernel_rfl) (by kernel_rfl) (fun _ _ _ h => h) (Or.inl ⟨by rfl, ?_⟩) hS ?_
          rotate_left
          · (intro w hSw; have hSw := (HSd.out w).1 hSw; go_split_ands; go_simp) <;> with_reducible rfl
          clear hS
          try simp only [Act.put, List.setIfInBounds_toArray, List.set_cons_zero, List.set_cons_succ]
          have hS := HSp.out _ bA bD bZ bN ea_ ra_ rb_
          refine wpAnyH_take (i := 5) (oi := { dst := some 129, op := Go.Op.move (Go.Operand.tmp 19), type := 3, pos := "laws.go:1709", after := #[{ on := 2, ground := Go.Ground.guard }], guard := some (2, false) }) (v := ?_) rfl (by kernel_rfl) (by kernel_rfl) (by kernel_rfl) (fun _ _ _ h => h) (Or.inl ⟨by rfl, ?_⟩) hS ?_
          rotate_left
          · (intro w hSw; have hSw := (HSd.out w).1 hSw; go_split_ands; go_simp) <;> with_reducible rfl
          clear hS
          try simp only [Act.put, List.setIfInBounds_toArray, List.set_cons_zero, List.set_cons_succ]
          have hS := HSp.out _ bA bD bZ bN ea_ ra_ rb_
          refine wpAnyH_take (i := 6) (oi := { dst := some 130, op := Go.Op.indexAddr 43 (Go.Operand.tmp 128) (Go.Operand.tmp 129), type := 0, pos := "laws.go:1709", after := #[{ on := 4, ground := Go.Ground.data }, { on := 5, ground := Go.Ground.data }, { on := 2, ground := Go.Ground.guard }], guard := some (2, false) }) (v := ?_) rfl (by kernel_rfl) (by kernel_rfl) (by kernel_rfl) (fun _ _ _ h => h) (Or.inl ⟨by rfl, ?_⟩) hS ?_
          rotate_left
          · (intro w hSw; have hSw := (HSd.out w).1 hSw; go_split_ands; go_simp) <;> with_reducible rfl
          clear hS
          try simp only [Act.put, List.setIfInBounds_toArray, List.set_cons_zero, List.set_cons_succ]
          have hS := HSp.out _ bA bD bZ bN ea_ ra_ rb_
          refine wpAnyH_take (i := 7) (oi := { dst := some 131, op := Go.Op.load 2 (Go.Operand.tmp 130), type := 2, pos := "laws.go:1709", after := #[{ on := 6, ground := Go.Ground.data }, { on := 2, ground := Go.Ground.guard }], guard := some (2, false) }) (v := ?_) rfl (by kernel_rfl) (by kernel_rfl) (by kernel_rfl) (fun _ _ _ h => h) (Or.inl ⟨by rfl, ?_⟩) hS ?_
          rotate_left
          · (intro w hSw; have hSw := (HSd.out w).1 hSw; go_split_ands; go_simp) <;> with_reducible rfl
          clear hS
          try simp only [Act.put, List.setIfInBounds_toArray, List.set_cons_zero, List.set_cons_succ]
          have hS := HSp.out _ bA bD bZ bN ea_ ra_ rb_
          refine wpAnyH_take (i := 8) (oi := { dst := some 132, op := Go.Op.binOp Go.BinOp.neq 2 (Go.Operand.tmp 127) (Go.Operand.tmp 131) 2, type := 4, pos := "laws.go:1709", after := #[{ on := 3, ground := Go.Ground.data }, { on := 7, ground := Go.Ground.data }, { on := 2, ground := Go.Ground.guard }], guard := some (2, false) }) (v := ?_) rfl (by kernel_rfl) (by kernel_rfl) (by kernel_rfl) (fun _ _ _ h => h) (Or.inl ⟨by rfl, ?_⟩) hS ?_
          rotate_left
          · (intro w hSw; have hSw := (HSd.out w).1 hSw; go_split_ands; go_simp) <;> with_reducible rfl
          clear hS
          try simp only [Act.put, List.setIfInBounds_toArray, List.set_cons_zero, List.set_cons_succ]
          have hS := HSp.out _ bA bD bZ bN ea_ ra_ rb_
          refine wpAnyH_take (i := 9) (oi := { dst := some 133, op := Go.Op.pick (Go.Operand.tmp 126) (Go.Operand.const (Go.Value.bool true)) (Go.Operand.tmp 132), type := 4, pos := "laws.go:1709", after := #[{ on := 2, ground := Go.Ground.data }, { on := 8, ground := Go.Ground.data }], guard := none }) (v := ?_) rfl (by kernel_rfl) (by kernel_rfl) (by kernel_rfl) (fun _ _ _ h => h) (Or.inl ⟨by rfl, ?_⟩) hS ?_
          rotate_left
          · (intro w hSw; have hSw := (HSd.out w).1 hSw; go_split_ands; go_simp) <;> with_reducible rfl
          clear hS
          try simp only [Act.put, List.setIfInBounds_toArray, List.set_cons_zero, List.set_cons_succ]
          have hS := HSp.out _ bA bD bZ bN ea_ ra_ rb_
          refine wpAnyH_take (i := 10) (oi := { dst := some 134, op := Go.Op.move (Go.Operand.tmp 133), type := 4, pos := "laws.go:1709", after := #[{ on := 9, ground := Go.Ground.data }, { on := 2, ground := Go.Ground.chain }], guard := none }) (v := ?_) rfl (by kernel_rfl) (by kernel_rfl) (by kernel_rfl) (fun _ _ _ h => h) (Or.inl ⟨by rfl, ?_⟩) hS ?_
          rotate_left
          · (intro w hSw; have hSw := (HSd.out w).1 hSw; go_split_ands; go_simp) <;> with_reducible rfl
          clear hS
          try simp only [Act.put, List.setIfInBounds_toArray, List.set_cons_zero, List.set_cons_succ]
          have hS := HSp.out _ bA bD bZ bN ea_ ra_ rb_
          refine wpAnyH_take (i := 11) (oi := { dst := some 135, op := Go.Op.fieldAddr 61 (Go.Operand.tmp 20) 2, type := 0, pos := "laws.go:1709", after := #[{ on := 10, ground := Go.Ground.guard }], guard := some (10, false) }) (v := ?_) rfl (by kernel_rfl) (by kernel_rfl) (by kernel_rfl) (fun _ _ _ h => h) (Or.inl ⟨by rfl, ?_⟩) hS ?_
          rotate_left
          · (intro w hSw; have hSw := (HSd.out w).1 hSw; go_split_ands; go_simp) <;> with_reducible rfl
          clear hS
          try simp only [Act.put, List.setIfInBounds_toArray, List.set_cons_zero, List.set_cons_succ]
          have hS := HSp.out _ bA bD bZ bN ea_ ra_ rb_
          refine wpAnyH_take (i := 12) (oi := { dst := some 136, op := Go.Op.load 48 (Go.Operand.tmp 135), type := 48, pos := "laws.go:1709", after := #[{ on := 11, ground := Go.Ground.data }, { on := 10, ground := Go.Ground.guard }], guard := some (10, false) }) (v := ?_) rfl (by kernel_rfl) (by kernel_rfl) (by kernel_rfl) (fun _ _ _ h => h) (Or.inl ⟨by rfl, ?_⟩) hS ?_
          rotate_left
          · (intro w hSw; have hSw := (HSd.out w).1 hSw; go_split_ands; go_simp) <;> with_reducible rfl
          clear hS
          try simp only [Act.put, List.setIfInBounds_toArray, List.set_cons_zero, List.set_cons_succ]
          have hS := HSp.out _ bA bD bZ bN ea_ ra_ rb_
          refine wpAnyH_take (i := 13) (oi := { dst := some 137, op := Go.Op.move (Go.Operand.tmp 13), type := 64, pos := "laws.go:1709", after := #[{ on := 10, ground := Go.Ground.guard }], guard := some (10, false) }) (v := ?_) rfl (by kernel_rfl) (by kernel_rfl) (by kernel_rfl) (fun _ _ _ h => h) (Or.inl ⟨by rfl, ?_⟩) hS ?_
          rotate_left
          · (intro w hSw; have hSw := (HSd.out w).1 hSw; go_split_ands; go_simp) <;> with_reducible rfl
          clear hS
          try simp only [Act.put, List.setIfInBounds_toArray, List.set_cons_zero, List.set_cons_succ]
          have hS := HSp.out _ bA bD bZ bN ea_ ra_ rb_
          refine wpAnyH_take (i := 14) (oi := { dst := some 138, op := Go.Op.move (Go.Operand.tmp 19), type := 3, pos := "laws.go:1709", after := #[{ on := 10, ground := Go.Ground.guard }], guard := some (10, false) }) (v := ?_) rfl (by kernel_rfl) (by kernel_rfl) (by kernel_rfl) (fun _ _ _ h => h) (Or.inl ⟨by rfl, ?_⟩) hS ?_
          rotate_left
          · (intro w hSw; have hSw := (HSd.out w).1 hSw; go_split_ands; go_simp) <;> with_reducible rfl
          clear hS
          try simp only [Act.put, List.setIfInBounds_toArray, List.set_cons_zero, List.set_cons_succ]
          have hS := HSp.out _ bA bD bZ bN ea_ ra_ rb_
          refine wpAnyH_take (i := 15) (oi := { dst := some 139, op := Go.Op.indexAddr 64 (Go.Operand.tmp 137) (Go.Operand.tmp 138), type := 0, pos := "laws.go:1709", after := #[{ on := 13, ground := Go.Ground.data }, { on := 14, ground := Go.Ground.data }, { on := 10, ground := Go.Ground.guard }], guard := some (10, false) }) (v := ?_) rfl (by kernel_rfl) (by kernel_rfl) (by kernel_rfl) (fun _ _ _ h => h) (Or.inl ⟨by rfl, ?_⟩) hS ?_
          rotate_left
          · (intro w hSw; have hSw := (HSd.out w).1 hSw; go_split_ands; go_simp) <;> with_reducible rfl
          clear hS
          try simp only [Act.put, List.setIfInBounds_toArray, List.set_cons_zero, List.set_cons_succ]
          have hS := HSp.out _ bA bD bZ bN ea_ ra_ rb_
          refine wpAnyH_take (i := 16) (oi := { dst := some 140, op := Go.Op.load 48 (Go.Operand.tmp 139), type := 48, pos := "laws.go:1709", after := #[{ on := 15, ground := Go.Ground.data }, { on := 10, ground := Go.Ground.guard }], guard := some (10, false) }) (v := ?_) rfl (by kernel_rfl) (by kernel_rfl) (by kernel_rfl) (fun _ _ _ h => h) (Or.inl ⟨by rfl, ?_⟩) hS ?_
          rotate_left
          · (intro w hSw; have hSw := (HSd.out w).1 hSw; go_split_ands; go_simp) <;> with_reducible rfl
          clear hS
          try simp only [Act.put, List.setIfInBounds_toArray, List.set_cons_zero, List.set_cons_succ]
          have hS := HSp.out _ bA bD bZ bN ea_ ra_ rb_
          refine wpAnyH_take (i := 17) (oi := { dst := some 141, op := Go.Op.binOp Go.BinOp.neq 48 (Go.Operand.tmp 136) (Go.Operand.tmp 140) 48, type := 4, pos := "laws.go:1709", after := #[{ on := 12, ground := Go.Ground.data }, { on := 16, ground := Go.Ground.data }, { on := 10, ground := Go.Ground.guard }], guard := some (10, false) }) (v := ?_) rfl (by kernel_rfl) (by kernel_rfl) (by kernel_rfl) (fun _ _ _ h => h) (Or.inl ⟨by rfl, ?_⟩) hS ?_
          rotate_left
          · (intro w hSw; have hSw := (HSd.out w).1 hSw; go_split_ands; go_simp) <;> with_reducible rfl
          clear hS
          try simp only [Act.put, List.setIfInBounds_toArray, List.set_cons_zero, List.set_cons_succ]
          have hS := HSp.out _ bA bD bZ bN ea_ ra_ rb_
          refine wpAnyH_take (i := 18) (oi := { dst := some 142, op := Go.Op.pick (Go.Operand.tmp 134) (Go.Operand.const (Go.Value.bool true)) (Go.Operand.tmp 141), type := 4, pos := "laws.go:1709", after := #[{ on := 10, ground := Go.Ground.data }, { on := 17, ground := Go.Ground.data }], guard := none }) (v := ?_) rfl (by kernel_rfl) (by kernel_rfl) (by kernel_rfl) (fun _ _ _ h => h) (Or.inl ⟨by rfl, ?_⟩) hS ?_
          rotate_left
          · (intro w hSw; have hSw := (HSd.out w).1 hSw; go_split_ands; go_simp) <;> with_reducible rfl
          clear hS
          try simp only [Act.put, List.setIfInBounds_toArray, List.set_cons_zero, List.set_cons_succ]
          have hS := HSp.out _ bA bD bZ bN ea_ ra_ rb_
          refine wpAnyH_take (i := 19) (oi := { dst := some 143, op := Go.Op.move (Go.Operand.tmp 142), type := 4, pos := "laws.go:1709", after := #[{ on := 18, ground := Go.Ground.data }, { on := 10, ground := Go.Ground.chain }], guard := none }) (v := ?_) rfl (by kernel_rfl) (by kernel_rfl) (by kernel_rfl) (fun _ _ _ h => h) (Or.inl ⟨by rfl, ?_⟩) hS ?_
          rotate_left
          · (intro w hSw; have hSw := (HSd.out w).1 hSw; go_split_ands; go_simp) <;> with_reducible rfl
          clear hS
          try simp only [Act.put, List.setIfInBounds_toArray, List.set_cons_zero, List.set_cons_succ]
          have hS := HSp.out _ bA bD bZ bN ea_ ra_ rb_
          refine wpAnyH_take (i := 20) (oi := { dst := some 144, op := Go.Op.fieldAddr 61 (Go.Operand.tmp 20) 2, type := 0, pos := "laws.go:1709", after := #[{ on := 19, ground := Go.Ground.guard }], guard := some (19, false) }) (v := ?_) rfl (by kernel_rfl) (by kernel_rfl) (by kernel_rfl) (fun _ _ _ h => h) (Or.inl ⟨by rfl, ?_⟩) hS ?_
          rotate_left
          · (intro w hSw; have hSw := (HSd.out w).1 hSw; go_split_ands; go_simp) <;> with_reducible rfl
          clear hS
          try simp only [Act.put, List.setIfInBounds_toArray, List.set_cons_zero, List.set_cons_succ]
          have hS := HSp.out _ bA bD bZ bN ea_ ra_ rb_
          refine wpAnyH_take (i := 21) (oi := { dst := some 145, op := Go.Op.fieldAddr 48 (Go.Operand.tmp 144) 0, type := 0, pos := "laws.go:1709", after := #[{ on := 20, ground := Go.Ground.data }, { on := 19, ground := Go.Ground.guard }], guard := some (19, false) }) (v := ?_) rfl (by kernel_rfl) (by kernel_rfl) (by kernel_rfl) (fun _ _ _ h => h) (Or.inl ⟨by rfl, ?_⟩) hS ?_
          rotate_left
          · (intro w hSw; have hSw := (HSd.out w).1 hSw; go_split_ands; go_simp) <;> with_reducible rfl
          clear hS
          try simp only [Act.put, List.setIfInBounds_toArray, List.set_cons_zero, List.set_cons_succ]
          have hS := HSp.out _ bA bD bZ bN ea_ ra_ rb_
          refine wpAnyH_take (i := 22) (oi := { dst := some 146, op := Go.Op.load 2 (Go.Operand.tmp 145), type := 2, pos := "laws.go:1709", after := #[{ on := 21, ground := Go.Ground.data }, { on := 19, ground := Go.Ground.guard }], guard := some (19, false) }) (v := ?_) rfl (by kernel_rfl) (by kernel_rfl) (by kernel_rfl) (fun _ _ _ h => h) (Or.inl ⟨by rfl, ?_⟩) hS ?_
          rotate_left
          · (intro w hSw; have hSw := (HSd.out w).1 hSw; go_split_ands; go_simp) <;> with_reducible rfl
          clear hS
          try simp only [Act.put, List.setIfInBounds_toArray, List.set_cons_zero, List.set_cons_succ]
          have hS := HSp.out _ bA bD bZ bN ea_ ra_ rb_
          refine wpAnyH_take (i := 23) (oi := { dst := some 147, op := Go.Op.fieldAddr 61 (Go.Operand.tmp 17) 2, type := 0, pos := "laws.go:1709", after := #[{ on := 19, ground := Go.Ground.guard }], guard := some (19, false) }) (v := ?_) rfl (by kernel_rfl) (by kernel_rfl) (by kernel_rfl) (fun _ _ _ h => h) (Or.inl ⟨by rfl, ?_⟩) hS ?_
          rotate_left
          · (intro w hSw; have hSw := (HSd.out w).1 hSw; go_split_ands; go_simp) <;> with_reducible rfl
          clear hS
          try simp only [Act.put, List.setIfInBounds_toArray, List.set_cons_zero, List.set_cons_succ]
          have hS := HSp.out _ bA bD bZ bN ea_ ra_ rb_
          refine wpAnyH_take (i := 24) (oi := { dst := some 148, op := Go.Op.fieldAddr 48 (Go.Operand.tmp 147) 0, type := 0, pos := "laws.go:1709", after := #[{ on := 23, ground := Go.Ground.data }, { on := 19, ground := Go.Ground.guard }], guard := some (19, false) }) (v := ?_) rfl (by kernel_rfl) (by kernel_rfl) (by kernel_rfl) (fun _ _ _ h => h) (Or.inl ⟨by rfl, ?_⟩) hS ?_
          rotate_left
          · (intro w hSw; have hSw := (HSd.out w).1 hSw; go_split_ands; go_simp) <;> with_reducible rfl
          clear hS
          try simp only [Act.put, List.setIfInBounds_toArray, List.set_cons_zero, List.set_cons_succ]
          have hS := HSp.out _ bA bD bZ bN ea_ ra_ rb_
          refine wpAnyH_take (i := 25) (oi := { dst := some 149, op := Go.Op.load 2 (Go.Operand.tmp 148), type := 2, pos := "laws.go:1709", after := #[{ on := 24, ground := Go.Ground.data }, { on := 19, ground := Go.Ground.guard }], guard := some (19, false) }) (v := ?_) rfl (by kernel_rfl) (by kernel_rfl) (by kernel_rfl) (fun _ _ _ h => h) (Or.inl ⟨by rfl, ?_⟩) hS ?_
          rotate_left
          · (intro w hSw; have hSw := (HSd.out w).1 hSw; go_split_ands; go_simp) <;> with_reducible rfl
          clear hS
          try simp only [Act.put, List.setIfInBounds_toArray, List.set_cons_zero, List.set_cons_succ]
          have hS := HSp.out _ bA bD bZ bN ea_ ra_ rb_
          refine wpAnyH_take (i := 26) (oi := { dst := some 150, op := Go.Op.binOp Go.BinOp.lss 2 (Go.Operand.tmp 146) (Go.Operand.tmp 149) 2, type := 4, pos := "laws.go:1709", after := #[{ on := 22, ground := Go.Ground.data }, { on := 25, ground := Go.Ground.data }, { on := 19, ground := Go.Ground.guard }], guard := some (19, false) }) (v := ?_) rfl (by kernel_rfl) (by kernel_rfl) (by kernel_rfl) (fun _ _ _ h => h) (Or.inl ⟨by rfl, ?_⟩) hS ?_
          rotate_left
          · (intro w hSw; have hSw := (HSd.out w).1 hSw; go_split_ands; go_simp) <;> with_reducible rfl
          clear hS
          try simp only [Act.put, List.setIfInBounds_toArray, List.set_cons_zero, List.set_cons_succ]
          have hS := HSp.out _ bA bD bZ bN ea_ ra_ rb_
          refine wpAnyH_take (i := 27) (oi := { dst := some 151, op := Go.Op.pick (Go.Operand.tmp 143) (Go.Operand.const (Go.Value.bool true)) (Go.Operand.tmp 150), type := 4, pos := "laws.go:1709", after := #[{ on := 19, ground := Go.Ground.data }, { on := 26, ground := Go.Ground.data }], guard := none }) (v := ?_) rfl (by kernel_rfl) (by kernel_rfl) (by kernel_rfl) (fun _ _ _ h => h) (Or.inl ⟨by rfl, ?_⟩) hS ?_
          rotate_left
          · (intro w hSw; have hSw := (HSd.out w).1 hSw; go_split_ands; go_simp) <;> with_reducible rfl
          clear hS
          try simp only [Act.put, List.setIfInBounds_toArray, List.set_cons_zero, List.set_cons_succ]
          have hS := HSp.out _ bA bD bZ bN ea_ ra_ rb_
          refine wpAnyH_take (i := 28) (oi := { dst := some 152, op := Go.Op.move (Go.Operand.tmp 151), type := 4, pos := "laws.go:1709", after := #[{ on := 27, ground := Go.Ground.data }, { on := 19, ground := Go.Ground.chain }], guard := none }) (v := ?_) rfl (by kernel_rfl) (by kernel_rfl) (by kernel_rfl) (fun _ _ _ h => h) (Or.inl ⟨by rfl, ?_⟩) hS ?_
          rotate_left
          · (intro w hSw; have hSw := (HSd.out w).1 hSw; go_split_ands; go_simp) <;> with_reducible rfl
          clear hS
          try simp only [Act.put, List.setIfInBounds_toArray, List.set_cons_zero, List.set_cons_succ]
          have hS := HSp.out _ bA bD bZ bN ea_ ra_ rb_
          refine wpAnyH_take (i := 29) (oi := { dst := some 153, op := Go.Op.fieldAddr 61 (Go.Operand.tmp 20) 2, type := 0, pos := "laws.go:1709", after := #[{ on := 28, ground := Go.Ground.guard }], guard := some (28, false) }) (v := ?_) rfl (by kernel_rfl) (by kernel_rfl) (by kernel_rfl) (fun _ _ _ h => h) (Or.inl ⟨by rfl, ?_⟩) hS ?_
          rotate_left
          · (intro w hSw; have hSw := (HSd.out w).1 hSw; go_split_ands; go_simp) <;> with_reducible rfl
          clear hS
          try simp only [Act.put, List.setIfInBounds_toArray, List.set_cons_zero, List.set_cons_succ]
          have hS := HSp.out _ bA bD bZ bN ea_ ra_ rb_
          refine wpAnyH_take (i := 30) (oi := { dst := some 154, op := Go.Op.fieldAddr 48 (Go.Operand.tmp 153) 1, type := 0, pos := "laws.go:1709", after := #[{ on := 29, ground := Go.Ground.data }, { on := 28, ground := Go.Ground.guard }], guard := some (28, false) }) (v := ?_) rfl (by kernel_rfl) (by kernel_rfl) (by kernel_rfl) (fun _ _ _ h => h) (Or.inl ⟨by rfl, ?_⟩) hS ?_
          rotate_left
          · (intro w hSw; have hSw := (HSd.out w).1 hSw; go_split_ands; go_simp) <;> with_reducible rfl
          clear hS
          try simp only [Act.put, List.setIfInBounds_toArray, List.set_cons_zero, List.set_cons_succ]
          have hS := HSp.out _ bA bD bZ bN ea_ ra_ rb_
          refine wpAnyH_take (i := 31) (oi := { dst := some 155, op := Go.Op.load 2 (Go.Operand.tmp 154), type := 2, pos := "laws.go:1709", after := #[{ on := 30, ground := Go.Ground.data }, { on := 28, ground := Go.Ground.guard }], guard := some (28, false) }) (v := ?_) rfl (by kernel_rfl) (by kernel_rfl) (by kernel_rfl) (fun _ _ _ h => h) (Or.inl ⟨by rfl, ?_⟩) hS ?_
          rotate_left
          · (intro w hSw; have hSw := (HSd.out w).1 hSw; go_split_ands; go_simp) <;> with_reducible rfl
          clear hS
          try simp only [Act.put, List.setIfInBounds_toArray, List.set_cons_zero, List.set_cons_succ]
          have hS := HSp.out _ bA bD bZ bN ea_ ra_ rb_
          refine wpAnyH_take (i := 32) (oi := { dst := some 156, op := Go.Op.fieldAddr 61 (Go.Operand.tmp 17) 2, type := 0, pos := "laws.go:1709", after := #[{ on := 28, ground := Go.Ground.guard }], guard := some (28, false) }) (v := ?_) rfl (by kernel_rfl) (by kernel_rfl) (by kernel_rfl) (fun _ _ _ h => h) (Or.inl ⟨by rfl, ?_⟩) hS ?_
          rotate_left
          · (intro w hSw; have hSw := (HSd.out w).1 hSw; go_split_ands; go_simp) <;> with_reducible rfl
          clear hS
          try simp only [Act.put, List.setIfInBounds_toArray, List.set_cons_zero, List.set_cons_succ]
          have hS := HSp.out _ bA bD bZ bN ea_ ra_ rb_
          refine wpAnyH_take (i := 33) (oi := { dst := some 157, op := Go.Op.fieldAddr 48 (Go.Operand.tmp 156) 1, type := 0, pos := "laws.go:1709", after := #[{ on := 32, ground := Go.Ground.data }, { on := 28, ground := Go.Ground.guard }], guard := some (28, false) }) (v := ?_) rfl (by kernel_rfl) (by kernel_rfl) (by kernel_rfl) (fun _ _ _ h => h) (Or.inl ⟨by rfl, ?_⟩) hS ?_
          rotate_left
          · (intro w hSw; have hSw := (HSd.out w).1 hSw; go_split_ands; go_simp) <;> with_reducible rfl
          clear hS
          try simp only [Act.put, List.setIfInBounds_toArray, List.set_cons_zero, List.set_cons_succ]
          have hS := HSp.out _ bA bD bZ bN ea_ ra_ rb_
          refine wpAnyH_take (i := 34) (oi := { dst := some 158, op := Go.Op.load 2 (Go.Operand.tmp 157), type := 2, pos := "laws.go:1709", after := #[{ on := 33, ground := Go.Ground.data }, { on := 28, ground := Go.Ground.guard }], guard := some (28, false) }) (v := ?_) rfl (by kernel_rfl) (by kernel_rfl) (by kernel_rfl) (fun _ _ _ h => h) (Or.inl ⟨by rfl, ?_⟩) hS ?_
          rotate_left
          · (intro w hSw; have hSw := (HSd.out w).1 hSw; go_split_ands; go_simp) <;> with_reducible rfl
          clear hS
          try simp only [Act.put, List.setIfInBounds_toArray, List.set_cons_zero, List.set_cons_succ]
          have hS := HSp.out _ bA bD bZ bN ea_ ra_ rb_
          refine wpAnyH_take (i := 35) (oi := { dst := some 159, op := Go.Op.binOp Go.BinOp.lss 2 (Go.Operand.tmp 155) (Go.Operand.tmp 158) 2, type := 4, pos := "laws.go:1709", after := #[{ on := 31, ground := Go.Ground.data }, { on := 34, ground := Go.Ground.data }, { on := 28, ground := Go.Ground.guard }], guard := some (28, false) }) (v := ?_) rfl (by kernel_rfl) (by kernel_rfl) (by kernel_rfl) (fun _ _ _ h => h) (Or.inl ⟨by rfl, ?_⟩) hS ?_
          rotate_left
          · (intro w hSw; have hSw := (HSd.out w).1 hSw; go_split_ands; go_simp) <;> with_reducible rfl
          clear hS
          try simp only [Act.put, List.setIfInBounds_toArray, List.set_cons_zero, List.set_cons_succ]
          have hS := HSp.out _ bA bD bZ bN ea_ ra_ rb_
          refine wpAnyH_take (i := 36) (oi := { dst := some 160, op := Go.Op.pick (Go.Operand.tmp 152) (Go.Operand.const (Go.Value.bool true)) (Go.Operand.tmp 159), type := 4, pos := "laws.go:1709", after := #[{ on := 28, ground := Go.Ground.data }, { on := 35, ground := Go.Ground.data }], guard := none }) (v := ?_) rfl (by kernel_rfl) (by kernel_rfl) (by kernel_rfl) (fun _ _ _ h => h) (Or.inl ⟨by rfl, ?_⟩) hS ?_
          rotate_left
          · (intro w hSw; have hSw := (HSd.out w).1 hSw; go_split_ands; go_simp) <;> with_reducible rfl
          clear hS
          try simp only [Act.put, List.setIfInBounds_toArray, List.set_cons_zero, List.set_cons_succ]
          have hS := HSp.out _ bA bD bZ bN ea_ ra_ rb_
          refine wpAnyH_take (i := 37) (oi := { dst := some 161, op := Go.Op.move (Go.Operand.tmp 160), type := 4, pos := "laws.go:1709", after := #[{ on := 36, ground := Go.Ground.data }, { on := 28, ground := Go.Ground.chain }], guard := none }) (v := ?_) rfl (by kernel_rfl) (by kernel_rfl) (by kernel_rfl) (fun _ _ _ h => h) (Or.inl ⟨by rfl, ?_⟩) hS ?_
          rotate_left
          · (intro w hSw; have hSw := (HSd.out w).1 hSw; go_split_ands; go_simp) <;> with_reducible rfl
          clear hS
          try simp only [Act.put, List.setIfInBounds_toArray, List.set_cons_zero, List.set_cons_succ]
          have hS := HSp.out _ bA bD bZ bN ea_ ra_ rb_
          refine wpAnyH_take (i := 38) (oi := { dst := some 162, op := Go.Op.load 51 (Go.Operand.tmp 3), type := 51, pos := "laws.go:1709", after := #[{ on := 37, ground := Go.Ground.guard }], guard := some (37, false) }) (v := ?_) rfl (by kernel_rfl) (by kernel_rfl) (by kernel_rfl) (fun _ _ _ h => h) (Or.inl ⟨by rfl, ?_⟩) hS ?_
          rotate_left
          · (intro w hSw; have hSw := (HSd.out w).1 hSw; go_split_ands; go_simp) <;> with_reducible rfl
          clear hS
          try simp only [Act.put, List.setIfInBounds_toArray, List.set_cons_zero, List.set_cons_succ]
          have hS := HSp.out _ bA bD bZ bN ea_ ra_ rb_
          refine wpAnyH_take (i := 39) (oi := { dst := some 163, op := Go.Op.move (Go.Operand.tmp 4), type := 2, pos := "laws.go:1709", after := #[{ on := 37, ground := Go.Ground.guard }], guard := some (37, false) }) (v := ?_) rfl (by kernel_rfl) (by kernel_rfl) (by kernel_rfl) (fun _ _ _ h => h) (Or.inl ⟨by rfl, ?_⟩) hS ?_
          rotate_left
          · (intro w hSw; have hSw := (HSd.out w).1 hSw; go_split_ands; go_simp) <;> with_reducible rfl
          clear hS
          try simp only [Act.put, List.setIfInBounds_toArray, List.set_cons_zero, List.set_cons_succ]
          have hS := HSp.out _ bA bD bZ bN ea_ ra_ rb_
          refine wpAnyH_take (i := 40) (oi := { dst := some 164, op := Go.Op.load 32 (Go.Operand.tmp 5), type := 32, pos := "laws.go:1709", after := #[{ on := 37, ground := Go.Ground.guard }], guard := some (37, false) }) (v := ?_) rfl (by kernel_rfl) (by kernel_rfl) (by kernel_rfl) (fun _ _ _ h => h) (Or.inl ⟨by rfl, ?_⟩) hS ?_
          rotate_left
          · (intro w hSw; have hSw := (HSd.out w).1 hSw; go_split_ands; go_simp) <;> with_reducible rfl
          clear hS
          try simp only [Act.put, List.setIfInBounds_toArray, List.set_cons_zero, List.set_cons_succ]
          have hS := HSp.out _ bA bD bZ bN ea_ ra_ rb_
          refine wpAnyH_take (i := 41) (oi := { dst := some 165, op := Go.Op.load 61 (Go.Operand.tmp 20), type := 61, pos := "laws.go:1709", after := #[{ on := 37, ground := Go.Ground.guard }], guard := some (37, false) }) (v := ?_) rfl (by kernel_rfl) (by kernel_rfl) (by kernel_rfl) (fun _ _ _ h => h) (Or.inl ⟨by rfl, ?_⟩) hS ?_
          rotate_left
          · (intro w hSw; have hSw := (HSd.out w).1 hSw; go_split_ands; go_simp) <;> with_reducible rfl
          clear hS
          try simp only [Act.put, List.setIfInBounds_toArray, List.set_cons_zero, List.set_cons_succ]
          refine wpAnyH_ready (rs := [42]) (by kernel_rfl) (by simp) ?_
          refine AllReadyH.cons (o := { dst := some 166, op := Go.Op.call { callee := Go.Callee.value (Go.Operand.func 49), args := #[Go.Operand.tmp 162, Go.Operand.tmp 163, Go.Operand.tmp 164, Go.Operand.tmp 165], argTypes := #[51, 2, 32, 61] }, type := 4, pos := "laws.go:1709", after := #[{ on := 38, ground := Go.Ground.data }, { on := 39, ground := Go.Ground.data }, { on := 40, ground := Go.Ground.data }, { on := 41, ground := Go.Ground.data }, { on := 37, ground := Go.Ground.chain }, { on := 37, ground := Go.Ground.guard }], guard := some (37, false) }) rfl (fun Kn hK => ?_) AllReadyH.nil
          first | go_at_call 49 | (go_simp; go_at_call 49)
          (with_reducible refine Calls.mono (KI.out _ _ _ _ _ ((HP.out.on HQ.out).on HW.out).at_) ?_)
          rintro e V1 ⟨rfl, hb⟩
          try dsimp only
          try simp only [Act.put, List.setIfInBounds_toArray, List.set_cons_zero, List.set_cons_succ]
          replace bA := bA.on hb
          replace bD := bD.on hb
          replace bZ := bZ.on hb
          replace bN := bN.on hb
          replace ea_ := kc1 ea_ hb
          replace ra_ := kc1 ra_ hb
          replace rb_ := kc1 rb_ hb
          replace HW := Lib.hid (bel_end HW.out hb)
          clear hb
          refine hK.out _ _ (HSp.out _ bA bD bZ bN ea_ ra_ rb_) (fun _ => ?_)
          clear hK Kn
          have hS := HSp.out _ bA bD bZ bN ea_ ra_ rb_
          refine wpAnyH_take (i := 43) (oi := { dst := some 167, op := Go.Op.unOp Go.UnOp.not 4 (Go.Operand.tmp 166), type := 4, pos := "laws.go:1709", after := #[{ on := 42, ground := Go.Ground.data }, { on := 37, ground := Go.Ground.guard }], guard := some (37, false) }) (v := ?_) rfl (by kernel_rfl) (by kernel_rfl) (by kernel_rfl) (fun _ _ _ h => h) (Or.inl ⟨by rfl, ?_⟩) hS ?_
          rotate_left
          · (intro w hSw; have hSw := (HSd.out w).1 hSw; go_split_ands; go_simp) <;> with_reducible rfl
          clear hS
          try simp only [Act.put, List.setIfInBounds_toArray, List.set_cons_zero, List.set_cons_succ]
          have hS := HSp.out _ bA bD bZ bN ea_ ra_ rb_
          refine wpAnyH_take (i := 44) (oi := { dst := some 168, op := Go.Op.pick (Go.Operand.tmp 161) (Go.Operand.const (Go.Value.bool true)) (Go.Operand.tmp 167), type := 4, pos := "laws.go:1709", after := #[{ on := 37, ground := Go.Ground.data }, { on := 43, ground := Go.Ground.data }], guard := none }) (v := ?_) rfl (by kernel_rfl) (by kernel_rfl) (by kernel_rfl) (fun _ _ _ h => h) (Or.inl ⟨by rfl, ?_⟩) hS ?_
          rotate_left
          · (intro w hSw; have hSw := (HSd.out w).1 hSw; go_split_ands; go_simp) <;> with_reducible rfl
          clear hS
          try simp only [Act.put, List.setIfInBounds_toArray, List.set_cons_zero, List.set_cons_succ]
          refine wpAnyH_done (by kernel_rfl) ?_ _
          go_wp2_with fail
          go_meet
          exact ⟨rfl, HW.out⟩
        case rest =>
          obtain ⟨rfl, hb⟩ := hcut
          obtain ⟨W5, hwc⟩ : ∃ X, X = wc := ⟨_, rfl⟩
          rw [← hwc] at hb ⊢
          clear hwc
          replace bZ := bZ.on hb
          replace bN := bN.on hb
          replace HQ := Lib.hid (bel_end HQ.out hb)
          clear hb bA bD bX ea_ ra_ rb_ KI dl dh nl nh hEI
          have bZ_0 := bZ.cell 0 rfl
          have bZ_1 := bZ.cell 1 rfl
          have bZ_2 := bZ.cell 2 rfl
          have bZ_3 := bZ.cell 3 rfl
          have bN_0 := bN.cell 0 rfl
          have bN_1 := bN.cell 1 rfl
          have bN_2 := bN.cell 2 rfl
          have bN_3 := bN.cell 3 rfl
          have bZ_f0 := bZ.frozen 0
          have bZ_f1 := bZ.frozen 1
          have bZ_f2 := bZ.frozen 2
          have bZ_f3 := bZ.frozen 3
          have bZ_l := bZ.lt
          have bN_l := bN.lt
          go_wp2
          go_roundw
          (case rel => exact ⟨k + 1, k2, d2, l2, h2, by go_num, by omega, HX2.out, (((bZ.set 0 _ rfl).set 1 _ rfl).set 2 _ rfl).set 3 _ rfl, (((HQ.out.setCell (Nat.le_refl _) _).setCell (Nat.le_refl _) _).setCell (Nat.le_refl _) _).setCell (Nat.le_refl _) _⟩)
          (case measure => simp [intOf]; omega)
end Go.Proofs.Ytaaklnabomhleaa
