/- Contracts of the model's IsRayState, FirstState, StepRay. -/
import Derived.Test.YtaaklnabomhleaaRyU
namespace Go.Proofs.Ytaaklnabomhleaa
open Go.ChangeShapes Go.WideShapes Go.ChangeAt Go.RowKit Go.Shelf Num
set_option linter.unusedVariables false
set_option linter.unusedSimpArgs false

set_option maxRecDepth 100000 in
set_option maxHeartbeats 4000000 in
theorem sirs_any (w : World) (a b : Option Addr) (ca cb : Nat) (zs ys : List Int) (src c s h K lo hi : Int) (dn : Bool) (hp : Prof w w.heap.size a b zs ys) :
    Calls Try.prog 54 #[.agg #[.slice a zs.length ca, .slice b ys.length cb], .int .i64 src, .agg #[.int .i64 c, .int .i64 s, .int .i64 h], .agg #[.int .i64 K, .bool dn, .int .i64 lo, .int .i64 hi]] w fun e w' => e = .returned (.bool (eosT zs ys src c s h K lo hi == 0)) ∧ Below w.heap.size w w' := by
  have HP := Lib.hid hp
  have KE : Hid (∀ W : World, Below w.heap.size w W → Calls Try.prog 110 #[.agg #[.slice a zs.length ca, .slice b ys.length cb], .int .i64 src, .agg #[.int .i64 c, .int .i64 s, .int .i64 h], .int .i64 K] W fun e w' => e = .returned (.int .i64 (rcod zs ys src c s h K)) ∧ Below W.heap.size W w') := Lib.hid (fun W hb => lrc_any W a b ca cb zs ys src K c s h (HP.out.on hb))
  unfold eosT
  by_cases hq : rcod zs ys src c s h K = 0
  case neg =>
    rw [if_neg hq]
    obtain ⟨q, hqq⟩ : ∃ q, rcod zs ys src c s h K = q := ⟨_, rfl⟩
    rw [hqq] at KE hq ⊢
    have hq0 : (q == 0) = false := by simpa using hq
    rw [hq0]
    clear hqq hq hp
    go_enter Try.func54, Try.ntmps54
    go_wp2_with fail
    generalize hW : World.alloc _ _ = W
    have bP : Bk W (w.heap.size) #[.slice a zs.length ca, .slice b ys.length cb] 51 := by rw [← hW]; repeat (first | (refine Bk.new' ?_; (simp; done)) | refine Bk.alloc ?_ _)
    have bD : Bk W (w.heap.size + 1) #[.int .i64 c, .int .i64 s, .int .i64 h] 32 := by rw [← hW]; repeat (first | (refine Bk.new' ?_; (simp; done)) | refine Bk.alloc ?_ _)
    have bS : Bk W (w.heap.size + 1 + 1) #[.int .i64 K, .bool dn, .int .i64 lo, .int .i64 hi] 61 := by rw [← hW]; repeat (first | (refine Bk.new' ?_; (simp; done)) | refine Bk.alloc ?_ _)
    have HB : Hid (Below w.heap.size w W) := Lib.hid (by rw [← hW]; exact (by repeat (first | exact Below.refl _ _ | (refine Below.alloc ?_ (by simp <;> omega) _) | (refine Below.setCell ?_ (by simp <;> omega) _) | (refine Below.drew ?_) | (refine bel_drewN ?_ _))))
    clear hW
    (with_reducible refine Calls.mono (KE.out _ HB.out) ?_)
    rintro e w1 ⟨rfl, hb⟩
    replace bS := bS.on hb
    replace HB := Lib.hid (bel_end HB.out hb)
    clear hb
    go_wp2
    go_ret
    exact ⟨rfl, HB.out⟩
  case pos =>
    rw [if_pos hq]
    obtain ⟨i, k, rfl, rfl, hk, r⟩ := rc_parts hq
    rw [hq] at KE
    have SQ : ∃ N : Int, crB ys (i : Int) c h (k : Int) = decide (0 < N) ∧ ∀ W : World, Below w.heap.size w W → Calls Try.prog 113 #[.agg #[.slice a zs.length ca, .slice b ys.length cb], .int .i64 (i : Int), .agg #[.int .i64 c, .int .i64 s, .int .i64 h], .int .i64 (k : Int)] W fun e w' => e = .returned (.int .i64 N) ∧ Below W.heap.size W w' := by
      refine ⟨(h * ys.getD i 0 - c * ys.getD k 0) * (h * ys.getD i 0 + c * ys.getD k 0), ?_, fun W hb => lsq_any W a b ca cb zs ys i k c s h (HP.out.on hb) r.ok r.hi hk r.od⟩
      have := sq_pos r.A.1 (r.B k).1
      unfold crB
      rw [rA_nat, rB_nat, Bool.eq_iff_iff, decide_eq_true_eq, decide_eq_true_eq]
      exact this.symm
    obtain ⟨N, hN, kN⟩ := SQ
    have KC := Lib.hid kN
    rw [hN]
    obtain ⟨V, hV⟩ : ∃ x, vldB lo hi = x := ⟨_, rfl⟩
    rw [hV]
    have HV := Lib.hid hV
    clear hN kN hV hp r hk hq
    by_cases hN : 0 < N
    case neg =>
      rw [decide_eq_false hN]
      go_enter Try.func54, Try.ntmps54
      go_wp2_with fail
      generalize hW : World.alloc _ _ = W
      have bP : Bk W (w.heap.size) #[.slice a zs.length ca, .slice b ys.length cb] 51 := by rw [← hW]; repeat (first | (refine Bk.new' ?_; (simp; done)) | refine Bk.alloc ?_ _)
      have bD : Bk W (w.heap.size + 1) #[.int .i64 c, .int .i64 s, .int .i64 h] 32 := by rw [← hW]; repeat (first | (refine Bk.new' ?_; (simp; done)) | refine Bk.alloc ?_ _)
      have bS : Bk W (w.heap.size + 1 + 1) #[.int .i64 (k : Int), .bool dn, .int .i64 lo, .int .i64 hi] 61 := by rw [← hW]; repeat (first | (refine Bk.new' ?_; (simp; done)) | refine Bk.alloc ?_ _)
      have HB : Hid (Below w.heap.size w W) := Lib.hid (by rw [← hW]; exact (by repeat (first | exact Below.refl _ _ | (refine Below.alloc ?_ (by simp <;> omega) _) | (refine Below.setCell ?_ (by simp <;> omega) _) | (refine Below.drew ?_) | (refine bel_drewN ?_ _))))
      clear hW
      (with_reducible refine Calls.mono (KE.out _ HB.out) ?_)
      rintro e w1 ⟨rfl, hb⟩
      replace bP := bP.on hb
      replace bD := bD.on hb
      replace bS := bS.on hb
      replace HB := Lib.hid (bel_end HB.out hb)
      clear hb
      have bP_0 := bP.cell 0 rfl
      have bP_1 := bP.cell 1 rfl
      have bP_l := bP.lt
      have bD_0 := bD.cell 0 rfl
      have bD_1 := bD.cell 1 rfl
      have bD_2 := bD.cell 2 rfl
      have bD_l := bD.lt
      have bS_0 := bS.cell 0 rfl
      have bS_1 := bS.cell 1 rfl
      have bS_2 := bS.cell 2 rfl
      have bS_3 := bS.cell 3 rfl
      have bS_l := bS.lt
      go_wp2_with fail
      clear bP_0 bP_1 bP_l
      clear bD_0 bD_1 bD_2 bD_l
      clear bS_0 bS_1 bS_2 bS_3 bS_l
      (with_reducible refine Calls.mono (KC.out _ HB.out) ?_)
      rintro e w2 ⟨rfl, hb⟩
      replace bS := bS.on hb
      replace HB := Lib.hid (bel_end HB.out hb)
      clear hb
      go_wp2
      go_ret
      exact ⟨rfl, HB.out⟩
    case pos =>
      rw [decide_eq_true hN]
      cases V
      case false =>
        go_enter Try.func54, Try.ntmps54
        go_wp2_with fail
        generalize hW : World.alloc _ _ = W
        have bP : Bk W (w.heap.size) #[.slice a zs.length ca, .slice b ys.length cb] 51 := by rw [← hW]; repeat (first | (refine Bk.new' ?_; (simp; done)) | refine Bk.alloc ?_ _)
        have bD : Bk W (w.heap.size + 1) #[.int .i64 c, .int .i64 s, .int .i64 h] 32 := by rw [← hW]; repeat (first | (refine Bk.new' ?_; (simp; done)) | refine Bk.alloc ?_ _)
        have bS : Bk W (w.heap.size + 1 + 1) #[.int .i64 (k : Int), .bool dn, .int .i64 lo, .int .i64 hi] 61 := by rw [← hW]; repeat (first | (refine Bk.new' ?_; (simp; done)) | refine Bk.alloc ?_ _)
        have HB : Hid (Below w.heap.size w W) := Lib.hid (by rw [← hW]; exact (by repeat (first | exact Below.refl _ _ | (refine Below.alloc ?_ (by simp <;> omega) _) | (refine Below.setCell ?_ (by simp <;> omega) _) | (refine Below.drew ?_) | (refine bel_drewN ?_ _))))
        clear hW
        (with_reducible refine Calls.mono (KE.out _ HB.out) ?_)
        rintro e w1 ⟨rfl, hb⟩
        replace bP := bP.on hb
        replace bD := bD.on hb
        replace bS := bS.on hb
        replace HB := Lib.hid (bel_end HB.out hb)
        clear hb
        have bP_0 := bP.cell 0 rfl
        have bP_1 := bP.cell 1 rfl
        have bP_l := bP.lt
        have bD_0 := bD.cell 0 rfl
        have bD_1 := bD.cell 1 rfl
        have bD_2 := bD.cell 2 rfl
        have bD_l := bD.lt
        have bS_0 := bS.cell 0 rfl
        have bS_1 := bS.cell 1 rfl
        have bS_2 := bS.cell 2 rfl
        have bS_3 := bS.cell 3 rfl
        have bS_l := bS.lt
        go_wp2_with fail
        clear bP_0 bP_1 bP_l
        clear bD_0 bD_1 bD_2 bD_l
        clear bS_0 bS_1 bS_2 bS_3 bS_l
        (with_reducible refine Calls.mono (KC.out _ HB.out) ?_)
        rintro e w2 ⟨rfl, hb⟩
        replace bS := bS.on hb
        replace HB := Lib.hid (bel_end HB.out hb)
        clear hb
        have bS_0 := bS.cell 0 rfl
        have bS_1 := bS.cell 1 rfl
        have bS_2 := bS.cell 2 rfl
        have bS_3 := bS.cell 3 rfl
        have bS_l := bS.lt
        go_wp2_with fail
        refine (svl_any _ _ _).mono ?_
        rw [HV.out]
        rintro e w3 ⟨rfl, hw9⟩
        have hb : Below w2.heap.size w2 w3 := by rw [hw9]; exact (Below.refl _ _).alloc (Nat.le_refl _) _
        clear hw9
        clear bS_0 bS_1 bS_2 bS_3 bS_l
        replace bS := bS.on hb
        replace HB := Lib.hid (bel_end HB.out hb)
        clear hb
        go_wp2
        go_ret
        exact ⟨rfl, HB.out⟩
      case true =>
        by_cases hlo : 0 ≤ lo
        · rw [decide_eq_true hlo]
          go_enter Try.func54, Try.ntmps54
          go_wp2_with fail
          generalize hW : World.alloc _ _ = W
          have bP : Bk W (w.heap.size) #[.slice a zs.length ca, .slice b ys.length cb] 51 := by rw [← hW]; repeat (first | (refine Bk.new' ?_; (simp; done)) | refine Bk.alloc ?_ _)
          have bD : Bk W (w.heap.size + 1) #[.int .i64 c, .int .i64 s, .int .i64 h] 32 := by rw [← hW]; repeat (first | (refine Bk.new' ?_; (simp; done)) | refine Bk.alloc ?_ _)
          have bS : Bk W (w.heap.size + 1 + 1) #[.int .i64 (k : Int), .bool dn, .int .i64 lo, .int .i64 hi] 61 := by rw [← hW]; repeat (first | (refine Bk.new' ?_; (simp; done)) | refine Bk.alloc ?_ _)
          have HB : Hid (Below w.heap.size w W) := Lib.hid (by rw [← hW]; exact (by repeat (first | exact Below.refl _ _ | (refine Below.alloc ?_ (by simp <;> omega) _) | (refine Below.setCell ?_ (by simp <;> omega) _) | (refine Below.drew ?_) | (refine bel_drewN ?_ _))))
          clear hW
          (with_reducible refine Calls.mono (KE.out _ HB.out) ?_)
          rintro e w1 ⟨rfl, hb⟩
          replace bP := bP.on hb
          replace bD := bD.on hb
          replace bS := bS.on hb
          replace HB := Lib.hid (bel_end HB.out hb)
          clear hb
          have bP_0 := bP.cell 0 rfl
          have bP_1 := bP.cell 1 rfl
          have bP_l := bP.lt
          have bD_0 := bD.cell 0 rfl
          have bD_1 := bD.cell 1 rfl
          have bD_2 := bD.cell 2 rfl
          have bD_l := bD.lt
          have bS_0 := bS.cell 0 rfl
          have bS_1 := bS.cell 1 rfl
          have bS_2 := bS.cell 2 rfl
          have bS_3 := bS.cell 3 rfl
          have bS_l := bS.lt
          go_wp2_with fail
          clear bP_0 bP_1 bP_l
          clear bD_0 bD_1 bD_2 bD_l
          clear bS_0 bS_1 bS_2 bS_3 bS_l
          (with_reducible refine Calls.mono (KC.out _ HB.out) ?_)
          rintro e w2 ⟨rfl, hb⟩
          replace bS := bS.on hb
          replace HB := Lib.hid (bel_end HB.out hb)
          clear hb
          have bS_0 := bS.cell 0 rfl
          have bS_1 := bS.cell 1 rfl
          have bS_2 := bS.cell 2 rfl
          have bS_3 := bS.cell 3 rfl
          have bS_l := bS.lt
          go_wp2_with fail
          refine (svl_any _ _ _).mono ?_
          rw [HV.out]
          rintro e w3 ⟨rfl, hw9⟩
          have hb : Below w2.heap.size w2 w3 := by rw [hw9]; exact (Below.refl _ _).alloc (Nat.le_refl _) _
          clear hw9
          clear bS_0 bS_1 bS_2 bS_3 bS_l
          replace bS := bS.on hb
          replace HB := Lib.hid (bel_end HB.out hb)
          clear hb
          have bS_0 := bS.cell 0 rfl
          have bS_1 := bS.cell 1 rfl
          have bS_2 := bS.cell 2 rfl
          have bS_3 := bS.cell 3 rfl
          have bS_l := bS.lt
          go_wp2
          go_ret
          exact ⟨rfl, HB.out⟩
        · rw [decide_eq_false hlo]
          go_enter Try.func54, Try.ntmps54
          go_wp2_with fail
          generalize hW : World.alloc _ _ = W
          have bP : Bk W (w.heap.size) #[.slice a zs.length ca, .slice b ys.length cb] 51 := by rw [← hW]; repeat (first | (refine Bk.new' ?_; (simp; done)) | refine Bk.alloc ?_ _)
          have bD : Bk W (w.heap.size + 1) #[.int .i64 c, .int .i64 s, .int .i64 h] 32 := by rw [← hW]; repeat (first | (refine Bk.new' ?_; (simp; done)) | refine Bk.alloc ?_ _)
          have bS : Bk W (w.heap.size + 1 + 1) #[.int .i64 (k : Int), .bool dn, .int .i64 lo, .int .i64 hi] 61 := by rw [← hW]; repeat (first | (refine Bk.new' ?_; (simp; done)) | refine Bk.alloc ?_ _)
          have HB : Hid (Below w.heap.size w W) := Lib.hid (by rw [← hW]; exact (by repeat (first | exact Below.refl _ _ | (refine Below.alloc ?_ (by simp <;> omega) _) | (refine Below.setCell ?_ (by simp <;> omega) _) | (refine Below.drew ?_) | (refine bel_drewN ?_ _))))
          clear hW
          (with_reducible refine Calls.mono (KE.out _ HB.out) ?_)
          rintro e w1 ⟨rfl, hb⟩
          replace bP := bP.on hb
          replace bD := bD.on hb
          replace bS := bS.on hb
          replace HB := Lib.hid (bel_end HB.out hb)
          clear hb
          have bP_0 := bP.cell 0 rfl
          have bP_1 := bP.cell 1 rfl
          have bP_l := bP.lt
          have bD_0 := bD.cell 0 rfl
          have bD_1 := bD.cell 1 rfl
          have bD_2 := bD.cell 2 rfl
          have bD_l := bD.lt
          have bS_0 := bS.cell 0 rfl
          have bS_1 := bS.cell 1 rfl
          have bS_2 := bS.cell 2 rfl
          have bS_3 := bS.cell 3 rfl
          have bS_l := bS.lt
          go_wp2_with fail
          clear bP_0 bP_1 bP_l
          clear bD_0 bD_1 bD_2 bD_l
          clear bS_0 bS_1 bS_2 bS_3 bS_l
          (with_reducible refine Calls.mono (KC.out _ HB.out) ?_)
          rintro e w2 ⟨rfl, hb⟩
          replace bS := bS.on hb
          replace HB := Lib.hid (bel_end HB.out hb)
          clear hb
          have bS_0 := bS.cell 0 rfl
          have bS_1 := bS.cell 1 rfl
          have bS_2 := bS.cell 2 rfl
          have bS_3 := bS.cell 3 rfl
          have bS_l := bS.lt
          go_wp2_with fail
          refine (svl_any _ _ _).mono ?_
          rw [HV.out]
          rintro e w3 ⟨rfl, hw9⟩
          have hb : Below w2.heap.size w2 w3 := by rw [hw9]; exact (Below.refl _ _).alloc (Nat.le_refl _) _
          clear hw9
          clear bS_0 bS_1 bS_2 bS_3 bS_l
          replace bS := bS.on hb
          replace HB := Lib.hid (bel_end HB.out hb)
          clear hb
          have bS_0 := bS.cell 0 rfl
          have bS_1 := bS.cell 1 rfl
          have bS_2 := bS.cell 2 rfl
          have bS_3 := bS.cell 3 rfl
          have bS_l := bS.lt
          go_wp2
          go_ret
          exact ⟨ret_bool (decide_eq_false (by omega)), HB.out⟩

set_option maxRecDepth 100000 in
set_option maxHeartbeats 2000000 in
theorem sfs_st (w : World) (a b : Option Addr) (ca cb : Nat) (zs ys : List Int) (src c s h : Int) (hp : Prof w w.heap.size a b zs ys) :
    Calls Try.prog 53 #[.agg #[.slice a zs.length ca, .slice b ys.length cb], .int .i64 src, .agg #[.int .i64 c, .int .i64 s, .int .i64 h]] w fun e w' => e = .returned (.tuple #[.agg #[.int .i64 (fsT zs ys src c s h).1, .bool (fsT zs ys src c s h).2.1, .int .i64 (fsT zs ys src c s h).2.2.1, .int .i64 (fsT zs ys src c s h).2.2.2.1], .int .i64 (fsT zs ys src c s h).2.2.2.2]) ∧ Below w.heap.size w w' := by
  have HP := Lib.hid hp
  have KE : Hid (∀ W : World, Below w.heap.size w W → Calls Try.prog 110 #[.agg #[.slice a zs.length ca, .slice b ys.length cb], .int .i64 src, .agg #[.int .i64 c, .int .i64 s, .int .i64 h], .int .i64 0] W fun e w' => e = .returned (.int .i64 (fcod zs ys src c s h)) ∧ Below W.heap.size W w') := Lib.hid (fun W hb => by have := lrc_any W a b ca cb zs ys src 0 c s h (HP.out.on hb); rwa [show rcT (prfB zs ys) (dirB c s h) (hkB zs src) (hkB zs 0) = fcod zs ys src c s h from fcod_m zs ys src c s h] at this)
  have KF : Hid (∀ W : World, Calls Try.prog 105 #[.int .i64 src, .agg #[.int .i64 c, .int .i64 s, .int .i64 h]] W fun e w' => e = .returned (.agg #[.int .i64 src, .bool (decide (0 < s)), .int .i64 0, .int .i64 0]) ∧ Below W.heap.size W w') := Lib.hid (fun W => l7f_any W src c s h)
  by_cases hq : fcod zs ys src c s h = 0
  case neg =>
    have HT : Hid (fsT zs ys src c s h = (0, false, 0, 0, fcod zs ys src c s h)) := Lib.hid (by unfold fsT; rw [if_neg hq])
    obtain ⟨q, hqq⟩ : ∃ q, fcod zs ys src c s h = q := ⟨_, rfl⟩
    rw [hqq] at KE HT hq
    have hq0 : (q != 0) = true := by simpa using hq
    clear hqq hq hp KF
    go_enter Try.func53, Try.ntmps53
    go_wp2_with fail
    generalize hW : World.alloc _ _ = W
    have bP : Bk W (w.heap.size) #[.slice a zs.length ca, .slice b ys.length cb] 51 := by rw [← hW]; repeat (first | (refine Bk.new' ?_; (simp; done)) | refine Bk.alloc ?_ _)
    have bD : Bk W (w.heap.size + 1) #[.int .i64 c, .int .i64 s, .int .i64 h] 32 := by rw [← hW]; repeat (first | (refine Bk.new' ?_; (simp; done)) | refine Bk.alloc ?_ _)
    have bR : Bk W (w.heap.size + 1 + 1) #[.int .i64 0, .bool false, .int .i64 0, .int .i64 0] 61 := by rw [← hW]; repeat (first | (refine Bk.new' ?_; (simp; done)) | refine Bk.alloc ?_ _)
    have HB : Hid (Below w.heap.size w W) := Lib.hid (by rw [← hW]; exact (by repeat (first | exact Below.refl _ _ | (refine Below.alloc ?_ (by simp <;> omega) _) | (refine Below.setCell ?_ (by simp <;> omega) _) | (refine Below.drew ?_) | (refine bel_drewN ?_ _))))
    clear hW
    (with_reducible refine Calls.mono (KE.out _ HB.out) ?_)
    rintro e w1 ⟨rfl, hb⟩
    replace bR := bR.on hb
    replace HB := Lib.hid (bel_end HB.out hb)
    clear hb
    have bR_0 := bR.cell 0 rfl
    have bR_1 := bR.cell 1 rfl
    have bR_2 := bR.cell 2 rfl
    have bR_3 := bR.cell 3 rfl
    have bR_f0 := bR.frozen 0
    have bR_f1 := bR.frozen 1
    have bR_f2 := bR.frozen 2
    have bR_f3 := bR.frozen 3
    have bR_l := bR.lt
    go_wp2
    exact bodyPost_ret (v := .tuple #[.agg #[.int .i64 0, .bool false, .int .i64 0, .int .i64 0], .int .i64 q]) (by simp [results, Try.results53, go_sem, bR_0, bR_1, bR_2, bR_3]) rfl ⟨resF HT.out, (by first | exact HB.out | exact ((((HB.out.setCell (p := ⟨w.heap.size + 1 + 1, 0, none⟩) (by dsimp only; omega) _).setCell (p := ⟨w.heap.size + 1 + 1, 1, none⟩) (by dsimp only; omega) _).setCell (p := ⟨w.heap.size + 1 + 1, 2, none⟩) (by dsimp only; omega) _).setCell (p := ⟨w.heap.size + 1 + 1, 3, none⟩) (by dsimp only; omega) _))⟩
  case pos =>
    have HT : Hid (fsT zs ys src c s h = (src, decide (0 < s), 0, 0, 0)) := Lib.hid (by unfold fsT; rw [if_pos hq])
    rw [hq] at KE
    obtain ⟨dd, hd⟩ : ∃ x, decide (0 < s) = x := ⟨_, rfl⟩
    rw [hd] at KF HT
    clear hd hq hp
    go_enter Try.func53, Try.ntmps53
    go_wp2_with fail
    generalize hW : World.alloc _ _ = W
    have bP : Bk W (w.heap.size) #[.slice a zs.length ca, .slice b ys.length cb] 51 := by rw [← hW]; repeat (first | (refine Bk.new' ?_; (simp; done)) | refine Bk.alloc ?_ _)
    have bD : Bk W (w.heap.size + 1) #[.int .i64 c, .int .i64 s, .int .i64 h] 32 := by rw [← hW]; repeat (first | (refine Bk.new' ?_; (simp; done)) | refine Bk.alloc ?_ _)
    have bR : Bk W (w.heap.size + 1 + 1) #[.int .i64 0, .bool false, .int .i64 0, .int .i64 0] 61 := by rw [← hW]; repeat (first | (refine Bk.new' ?_; (simp; done)) | refine Bk.alloc ?_ _)
    have HB : Hid (Below w.heap.size w W) := Lib.hid (by rw [← hW]; exact (by repeat (first | exact Below.refl _ _ | (refine Below.alloc ?_ (by simp <;> omega) _) | (refine Below.setCell ?_ (by simp <;> omega) _) | (refine Below.drew ?_) | (refine bel_drewN ?_ _))))
    clear hW
    (with_reducible refine Calls.mono (KE.out _ HB.out) ?_)
    rintro e w1 ⟨rfl, hb⟩
    replace bR := bR.on hb
    replace bD := bD.on hb
    replace HB := Lib.hid (bel_end HB.out hb)
    clear hb
    have bD_0 := bD.cell 0 rfl
    have bD_1 := bD.cell 1 rfl
    have bD_2 := bD.cell 2 rfl
    have bD_l := bD.lt
    go_wp2_with fail
    clear bD_0 bD_1 bD_2 bD_l
    (with_reducible refine Calls.mono (KF.out _) ?_)
    rintro e w2 ⟨rfl, hb⟩
    replace bR := bR.on hb
    replace HB := Lib.hid (bel_end HB.out hb)
    clear hb
    have bR_0 := bR.cell 0 rfl
    have bR_1 := bR.cell 1 rfl
    have bR_2 := bR.cell 2 rfl
    have bR_3 := bR.cell 3 rfl
    have bR_f0 := bR.frozen 0
    have bR_f1 := bR.frozen 1
    have bR_f2 := bR.frozen 2
    have bR_f3 := bR.frozen 3
    have bR_l := bR.lt
    go_wp2
    exact bodyPost_ret (v := .tuple #[.agg #[.int .i64 src, .bool dd, .int .i64 0, .int .i64 0], .int .i64 0]) (by simp [results, Try.results53, go_sem, bR_0, bR_1, bR_2, bR_3]) rfl ⟨resF HT.out, (by first | exact HB.out | exact ((((HB.out.setCell (p := ⟨w.heap.size + 1 + 1, 0, none⟩) (by dsimp only; omega) _).setCell (p := ⟨w.heap.size + 1 + 1, 1, none⟩) (by dsimp only; omega) _).setCell (p := ⟨w.heap.size + 1 + 1, 2, none⟩) (by dsimp only; omega) _).setCell (p := ⟨w.heap.size + 1 + 1, 3, none⟩) (by dsimp only; omega) _))⟩

set_option maxRecDepth 100000 in
set_option maxHeartbeats 4000000 in
theorem ssr_any (w : World) (a b : Option Addr) (ca cb : Nat) (zs ys : List Int) (src c s h K lo hi : Int) (dn : Bool) (hp : Prof w w.heap.size a b zs ys) :
    Calls Try.prog 51 #[.agg #[.slice a zs.length ca, .slice b ys.length cb], .int .i64 src, .agg #[.int .i64 c, .int .i64 s, .int .i64 h], .agg #[.int .i64 K, .bool dn, .int .i64 lo, .int .i64 hi]] w fun e w' => e = .returned (.tuple #[.agg #[.int .i64 (sryT zs ys src c s h K dn lo hi).1, .bool (sryT zs ys src c s h K dn lo hi).2.1, .int .i64 (sryT zs ys src c s h K dn lo hi).2.2.1, .int .i64 (sryT zs ys src c s h K dn lo hi).2.2.2.1], .int .i64 (sryT zs ys src c s h K dn lo hi).2.2.2.2.1, .int .i64 (sryT zs ys src c s h K dn lo hi).2.2.2.2.2]) ∧ Below w.heap.size w w' := by
  have HP := Lib.hid hp
  have KE : Hid (∀ W : World, Below w.heap.size w W → Calls Try.prog 110 #[.agg #[.slice a zs.length ca, .slice b ys.length cb], .int .i64 src, .agg #[.int .i64 c, .int .i64 s, .int .i64 h], .int .i64 0] W fun e w' => e = .returned (.int .i64 (fcod zs ys src c s h)) ∧ Below W.heap.size W w') := Lib.hid (fun W hb => by have := lrc_any W a b ca cb zs ys src 0 c s h (HP.out.on hb); rwa [show rcT (prfB zs ys) (dirB c s h) (hkB zs src) (hkB zs 0) = fcod zs ys src c s h from fcod_m zs ys src c s h] at this)
  have KI : Hid (∀ W : World, Below w.heap.size w W → Calls Try.prog 54 #[.agg #[.slice a zs.length ca, .slice b ys.length cb], .int .i64 src, .agg #[.int .i64 c, .int .i64 s, .int .i64 h], .agg #[.int .i64 K, .bool dn, .int .i64 lo, .int .i64 hi]] W fun e w' => e = .returned (.bool (eosT zs ys src c s h K lo hi == 0)) ∧ Below W.heap.size W w') := Lib.hid (fun W hb => sirs_any W a b ca cb zs ys src c s h K lo hi dn (HP.out.on hb))
  have hm := eos_model zs ys src c s h K lo hi
  by_cases hf : fcod zs ys src c s h = 0
  case neg =>
    rw [if_neg hf] at hm
    have HT : Hid (sryT zs ys src c s h K dn lo hi = (0, false, 0, 0, 0, fcod zs ys src c s h)) := Lib.hid (by unfold sryT; rw [if_neg (by rw [hm]; exact hf), hm])
    obtain ⟨q, hqq⟩ : ∃ q, fcod zs ys src c s h = q := ⟨_, rfl⟩
    rw [hqq] at KE HT hf
    have hq0 : (q != 0) = true := by simpa using hf
    have hq1 : (q == 0) = false := by simpa using hf
    clear hqq hf hm hp KI
    go_enter Try.func51, Try.ntmps51
    go_wp2_with fail
    generalize hW : World.alloc _ _ = W
    have bP : Bk W (w.heap.size) #[.slice a zs.length ca, .slice b ys.length cb] 51 := by rw [← hW]; repeat (first | (refine Bk.new' ?_; (simp; done)) | refine Bk.alloc ?_ _)
    have bD : Bk W (w.heap.size + 1) #[.int .i64 c, .int .i64 s, .int .i64 h] 32 := by rw [← hW]; repeat (first | (refine Bk.new' ?_; (simp; done)) | refine Bk.alloc ?_ _)
    have bS : Bk W (w.heap.size + 1 + 1) #[.int .i64 K, .bool dn, .int .i64 lo, .int .i64 hi] 61 := by rw [← hW]; repeat (first | (refine Bk.new' ?_; (simp; done)) | refine Bk.alloc ?_ _)
    have bR : Bk W (w.heap.size + 1 + 1 + 1) #[.int .i64 0, .bool false, .int .i64 0, .int .i64 0] 61 := by rw [← hW]; repeat (first | (refine Bk.new' ?_; (simp; done)) | refine Bk.alloc ?_ _)
    have HB : Hid (Below w.heap.size w W) := Lib.hid (by rw [← hW]; exact (by repeat (first | exact Below.refl _ _ | (refine Below.alloc ?_ (by simp <;> omega) _) | (refine Below.setCell ?_ (by simp <;> omega) _) | (refine Below.drew ?_) | (refine bel_drewN ?_ _))))
    clear hW
    (with_reducible refine Calls.mono (KE.out _ HB.out) ?_)
    rintro e w1 ⟨rfl, hb⟩
    replace bR := bR.on hb
    replace HB := Lib.hid (bel_end HB.out hb)
    clear hb
    have bR_0 := bR.cell 0 rfl
    have bR_1 := bR.cell 1 rfl
    have bR_2 := bR.cell 2 rfl
    have bR_3 := bR.cell 3 rfl
    have bR_f0 := bR.frozen 0
    have bR_f1 := bR.frozen 1
    have bR_f2 := bR.frozen 2
    have bR_f3 := bR.frozen 3
    have bR_l := bR.lt
    go_wp2
    exact bodyPost_ret (v := .tuple #[.agg #[.int .i64 0, .bool false, .int .i64 0, .int .i64 0], .int .i64 0, .int .i64 q]) (by simp [results, Try.results51, go_sem, bR_0, bR_1, bR_2, bR_3]) rfl ⟨resR HT.out, (by first | exact HB.out | exact ((((HB.out.setCell (p := ⟨w.heap.size + 1 + 1 + 1, 0, none⟩) (by dsimp only; omega) _).setCell (p := ⟨w.heap.size + 1 + 1 + 1, 1, none⟩) (by dsimp only; omega) _).setCell (p := ⟨w.heap.size + 1 + 1 + 1, 2, none⟩) (by dsimp only; omega) _).setCell (p := ⟨w.heap.size + 1 + 1 + 1, 3, none⟩) (by dsimp only; omega) _))⟩
  case pos =>
    rw [if_pos hf] at hm
    rw [hf] at KE
    by_cases hq : eosT zs ys src c s h K lo hi = 0
    case neg =>
      rw [if_neg hq] at hm
      have HT : Hid (sryT zs ys src c s h K dn lo hi = (0, false, 0, 0, 0, 2)) := Lib.hid (by unfold sryT; rw [if_neg hq, hm])
      rw [show (eosT zs ys src c s h K lo hi == 0) = false by simpa using hq] at KI
      clear hf hm hq hp
      go_enter Try.func51, Try.ntmps51
      go_wp2_with fail
      generalize hW : World.alloc _ _ = W
      have bP : Bk W (w.heap.size) #[.slice a zs.length ca, .slice b ys.length cb] 51 := by rw [← hW]; repeat (first | (refine Bk.new' ?_; (simp; done)) | refine Bk.alloc ?_ _)
      have bD : Bk W (w.heap.size + 1) #[.int .i64 c, .int .i64 s, .int .i64 h] 32 := by rw [← hW]; repeat (first | (refine Bk.new' ?_; (simp; done)) | refine Bk.alloc ?_ _)
      have bS : Bk W (w.heap.size + 1 + 1) #[.int .i64 K, .bool dn, .int .i64 lo, .int .i64 hi] 61 := by rw [← hW]; repeat (first | (refine Bk.new' ?_; (simp; done)) | refine Bk.alloc ?_ _)
      have bR : Bk W (w.heap.size + 1 + 1 + 1) #[.int .i64 0, .bool false, .int .i64 0, .int .i64 0] 61 := by rw [← hW]; repeat (first | (refine Bk.new' ?_; (simp; done)) | refine Bk.alloc ?_ _)
      have HB : Hid (Below w.heap.size w W) := Lib.hid (by rw [← hW]; exact (by repeat (first | exact Below.refl _ _ | (refine Below.alloc ?_ (by simp <;> omega) _) | (refine Below.setCell ?_ (by simp <;> omega) _) | (refine Below.drew ?_) | (refine bel_drewN ?_ _))))
      clear hW
      (with_reducible refine Calls.mono (KE.out _ HB.out) ?_)
      rintro e w1 ⟨rfl, hb⟩
      replace bP := bP.on hb
      replace bD := bD.on hb
      replace bS := bS.on hb
      replace bR := bR.on hb
      replace HB := Lib.hid (bel_end HB.out hb)
      clear hb
      have bP_0 := bP.cell 0 rfl
      have bP_1 := bP.cell 1 rfl
      have bP_l := bP.lt
      have bD_0 := bD.cell 0 rfl
      have bD_1 := bD.cell 1 rfl
      have bD_2 := bD.cell 2 rfl
      have bD_l := bD.lt
      have bS_0 := bS.cell 0 rfl
      have bS_1 := bS.cell 1 rfl
      have bS_2 := bS.cell 2 rfl
      have bS_3 := bS.cell 3 rfl
      have bS_l := bS.lt
      go_wp2_with fail
      (with_reducible refine Calls.mono (KI.out _ HB.out) ?_)
      rintro e w2 ⟨rfl, hb⟩
      replace bR := bR.on hb
      replace HB := Lib.hid (bel_end HB.out hb)
      clear hb
      have bR_0 := bR.cell 0 rfl
      have bR_1 := bR.cell 1 rfl
      have bR_2 := bR.cell 2 rfl
      have bR_3 := bR.cell 3 rfl
      have bR_f0 := bR.frozen 0
      have bR_f1 := bR.frozen 1
      have bR_f2 := bR.frozen 2
      have bR_f3 := bR.frozen 3
      have bR_l := bR.lt
      go_wp2
      exact bodyPost_ret (v := .tuple #[.agg #[.int .i64 0, .bool false, .int .i64 0, .int .i64 0], .int .i64 0, .int .i64 2]) (by simp [results, Try.results51, go_sem, bR_0, bR_1, bR_2, bR_3]) rfl ⟨resR HT.out, (by first | exact HB.out | exact ((((HB.out.setCell (p := ⟨w.heap.size + 1 + 1 + 1, 0, none⟩) (by dsimp only; omega) _).setCell (p := ⟨w.heap.size + 1 + 1 + 1, 1, none⟩) (by dsimp only; omega) _).setCell (p := ⟨w.heap.size + 1 + 1 + 1, 2, none⟩) (by dsimp only; omega) _).setCell (p := ⟨w.heap.size + 1 + 1 + 1, 3, none⟩) (by dsimp only; omega) _))⟩
    case pos =>
      rw [show (eosT zs ys src c s h K lo hi == 0) = true by simpa using hq] at KI
      obtain ⟨i, k, rfl, rfl, r, o, -⟩ := eos_0 (dn := dn) hq
      have KS : Hid (∀ W : World, Below w.heap.size w W → Calls Try.prog 111 #[.agg #[.slice a zs.length ca, .slice b ys.length cb], .int .i64 (i : Int), .agg #[.int .i64 c, .int .i64 s, .int .i64 h], .agg #[.int .i64 (k : Int), .bool dn, .int .i64 lo, .int .i64 hi]] W fun e w' => e = .returned (.tuple #[.agg #[.int .i64 (stpT zs ys i c h k dn lo hi).1, .bool (stpT zs ys i c h k dn lo hi).2.1, .int .i64 (stpT zs ys i c h k dn lo hi).2.2.1, .int .i64 (stpT zs ys i c h k dn lo hi).2.2.2.1], .int .i64 (stpT zs ys i c h k dn lo hi).2.2.2.2.1, .int .i64 (stpT zs ys i c h k dn lo hi).2.2.2.2.2]) ∧ Below W.heap.size W w') := Lib.hid (fun W hb => l7s_any W a b ca cb zs ys i k c s h lo hi dn (HP.out.on hb) r o)
      have HT : Hid (sryT zs ys (i : Int) c s h (k : Int) dn lo hi = stpT zs ys i c h k dn lo hi) := Lib.hid (by unfold sryT; rw [if_pos hq]; rfl)
      obtain ⟨⟨k1, d1, l1, h1, e1, q1⟩, hT⟩ : ∃ x, stpT zs ys i c h k dn lo hi = x := ⟨_, rfl⟩
      rw [hT] at KS HT
      clear hT hf hm hq hp r o
      go_enter Try.func51, Try.ntmps51
      go_wp2_with fail
      generalize hW : World.alloc _ _ = W
      have bP : Bk W (w.heap.size) #[.slice a zs.length ca, .slice b ys.length cb] 51 := by rw [← hW]; repeat (first | (refine Bk.new' ?_; (simp; done)) | refine Bk.alloc ?_ _)
      have bD : Bk W (w.heap.size + 1) #[.int .i64 c, .int .i64 s, .int .i64 h] 32 := by rw [← hW]; repeat (first | (refine Bk.new' ?_; (simp; done)) | refine Bk.alloc ?_ _)
      have bS : Bk W (w.heap.size + 1 + 1) #[.int .i64 (k : Int), .bool dn, .int .i64 lo, .int .i64 hi] 61 := by rw [← hW]; repeat (first | (refine Bk.new' ?_; (simp; done)) | refine Bk.alloc ?_ _)
      have bR : Bk W (w.heap.size + 1 + 1 + 1) #[.int .i64 0, .bool false, .int .i64 0, .int .i64 0] 61 := by rw [← hW]; repeat (first | (refine Bk.new' ?_; (simp; done)) | refine Bk.alloc ?_ _)
      have HB : Hid (Below w.heap.size w W) := Lib.hid (by rw [← hW]; exact (by repeat (first | exact Below.refl _ _ | (refine Below.alloc ?_ (by simp <;> omega) _) | (refine Below.setCell ?_ (by simp <;> omega) _) | (refine Below.drew ?_) | (refine bel_drewN ?_ _))))
      clear hW
      (with_reducible refine Calls.mono (KE.out _ HB.out) ?_)
      rintro e w1 ⟨rfl, hb⟩
      replace bP := bP.on hb
      replace bD := bD.on hb
      replace bS := bS.on hb
      replace bR := bR.on hb
      replace HB := Lib.hid (bel_end HB.out hb)
      clear hb
      have bP_0 := bP.cell 0 rfl
      have bP_1 := bP.cell 1 rfl
      have bP_l := bP.lt
      have bD_0 := bD.cell 0 rfl
      have bD_1 := bD.cell 1 rfl
      have bD_2 := bD.cell 2 rfl
      have bD_l := bD.lt
      have bS_0 := bS.cell 0 rfl
      have bS_1 := bS.cell 1 rfl
      have bS_2 := bS.cell 2 rfl
      have bS_3 := bS.cell 3 rfl
      have bS_l := bS.lt
      go_wp2_with fail
      clear bP_0 bP_1 bP_l
      clear bD_0 bD_1 bD_2 bD_l
      clear bS_0 bS_1 bS_2 bS_3 bS_l
      (with_reducible refine Calls.mono (KI.out _ HB.out) ?_)
      rintro e w2 ⟨rfl, hb⟩
      replace bP := bP.on hb
      replace bD := bD.on hb
      replace bS := bS.on hb
      replace bR := bR.on hb
      replace HB := Lib.hid (bel_end HB.out hb)
      clear hb
      have bP_0 := bP.cell 0 rfl
      have bP_1 := bP.cell 1 rfl
      have bP_l := bP.lt
      have bD_0 := bD.cell 0 rfl
      have bD_1 := bD.cell 1 rfl
      have bD_2 := bD.cell 2 rfl
      have bD_l := bD.lt
      have bS_0 := bS.cell 0 rfl
      have bS_1 := bS.cell 1 rfl
      have bS_2 := bS.cell 2 rfl
      have bS_3 := bS.cell 3 rfl
      have bS_l := bS.lt
      go_wp2_with fail
      (with_reducible refine Calls.mono (KS.out _ HB.out) ?_)
      rintro e w3 ⟨rfl, hb⟩
      replace bR := bR.on hb
      replace HB := Lib.hid (bel_end HB.out hb)
      clear hb
      have bR_0 := bR.cell 0 rfl
      have bR_1 := bR.cell 1 rfl
      have bR_2 := bR.cell 2 rfl
      have bR_3 := bR.cell 3 rfl
      have bR_f0 := bR.frozen 0
      have bR_f1 := bR.frozen 1
      have bR_f2 := bR.frozen 2
      have bR_f3 := bR.frozen 3
      have bR_l := bR.lt
      go_wp2
      exact bodyPost_ret (v := .tuple #[.agg #[.int .i64 k1, .bool d1, .int .i64 l1, .int .i64 h1], .int .i64 e1, .int .i64 q1]) (by simp [results, Try.results51, go_sem, bR_0, bR_1, bR_2, bR_3]) rfl ⟨resR HT.out, (by first | exact HB.out | exact ((((HB.out.setCell (p := ⟨w.heap.size + 1 + 1 + 1, 0, none⟩) (by dsimp only; omega) _).setCell (p := ⟨w.heap.size + 1 + 1 + 1, 1, none⟩) (by dsimp only; omega) _).setCell (p := ⟨w.heap.size + 1 + 1 + 1, 2, none⟩) (by dsimp only; omega) _).setCell (p := ⟨w.heap.size + 1 + 1 + 1, 3, none⟩) (by dsimp only; omega) _))⟩
end Go.Proofs.Ytaaklnabomhleaa
