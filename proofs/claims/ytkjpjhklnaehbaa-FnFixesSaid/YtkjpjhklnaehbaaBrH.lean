/- Contracts of fixes, the program's and the model's. -/
import Derived.Test.YtkjpjhklnaehbaaBrE
namespace Go.Proofs.Ytkjpjhklnaehbaa
open Go.ChangeShapes Go.WideShapes Go.ChangeAt Go.RowKit Go.Shelf Num
set_option linter.unusedVariables false
set_option linter.unusedSimpArgs false

theorem ret5e {a b c d e : Int} {T : Int × Int × Int × Int × Int} (h : T = (a, b, c, d, e)) : Ending.returned (.tuple #[.agg #[.int .i64 a, .int .i64 b], .agg #[.int .i64 c, .int .i64 d], .int .i64 e]) = .returned (.tuple #[.agg #[.int .i64 T.1, .int .i64 T.2.1], .agg #[.int .i64 T.2.2.1, .int .i64 T.2.2.2.1], .int .i64 T.2.2.2.2]) := by rw [h]
theorem sg1_mul_neg {a b : Int} : sg1 a * sg1 b < 0 ↔ a * b < 0 := by
  rcases Int.lt_trichotomy a 0 with h | h | h <;> rcases Int.lt_trichotomy b 0 with g | g | g
  · rw [sg1_lt h, sg1_lt g]; have := Int.mul_pos_of_neg_of_neg h g; omega
  · subst g; simp [sg1]
  · rw [sg1_lt h, sg1_pos g]; have := Int.mul_neg_of_neg_of_pos h g; omega
  · subst h; simp [sg1]
  · subst h; simp [sg1]
  · subst h; simp [sg1]
  · rw [sg1_pos h, sg1_lt g]; have := Int.mul_neg_of_pos_of_neg h g; omega
  · subst g; simp [sg1]
  · rw [sg1_pos h, sg1_pos g]; have := Int.mul_pos h g; omega

set_option maxRecDepth 100000 in
set_option maxHeartbeats 8000000 in
theorem icf_no (w : World) (px py ux uy qx qy vx vy : Int) (hok : cfB px py ux uy qx qy vx vy = false) :
    Calls Try.prog 24 #[.agg #[.int .i64 px, .int .i64 py], .agg #[.int .i64 ux, .int .i64 uy], .agg #[.int .i64 qx, .int .i64 qy], .agg #[.int .i64 vx, .int .i64 vy]] w fun e w' => e = .returned (.tuple #[.agg #[.int .i64 (cfT px py ux uy qx qy vx vy).1, .int .i64 (cfT px py ux uy qx qy vx vy).2.1], .agg #[.int .i64 (cfT px py ux uy qx qy vx vy).2.2.1, .int .i64 (cfT px py ux uy qx qy vx vy).2.2.2.1], .int .i64 (cfT px py ux uy qx qy vx vy).2.2.2.2]) ∧ Below w.heap.size w w' := by
  have HT : Hid (cfT px py ux uy qx qy vx vy = (0, 0, 0, 0, 1)) := Lib.hid (by unfold cfT; rw [hok]; rfl)
  obtain ⟨P, hP⟩ : ∃ q, ptB 100000 px py = q := ⟨_, rfl⟩
  obtain ⟨U, hU⟩ : ∃ q, brB ux uy = q := ⟨_, rfl⟩
  obtain ⟨R, hR⟩ : ∃ q, ptB 100000 qx qy = q := ⟨_, rfl⟩
  obtain ⟨E, hE⟩ : ∃ q, brB vx vy = q := ⟨_, rfl⟩
  unfold cfB at hok
  rw [hP, hU, hR, hE] at hok
  have HO := Lib.hid hok
  have KP : Hid (∀ W : World, Calls Try.prog 52 #[.agg #[.int .i64 px, .int .i64 py]] W fun e w' => e = .returned (.bool P) ∧ Below W.heap.size W w') := Lib.hid (fun W => by have := ipt_any W px py; rwa [hP] at this)
  have KU : Hid (∀ W : World, Calls Try.prog 18 #[.agg #[.int .i64 ux, .int .i64 uy]] W fun e w' => e = .returned (.bool U) ∧ Below W.heap.size W w') := Lib.hid (fun W => by have := ibg_any W ux uy; rwa [hU] at this)
  have KR : Hid (∀ W : World, Calls Try.prog 52 #[.agg #[.int .i64 qx, .int .i64 qy]] W fun e w' => e = .returned (.bool R) ∧ Below W.heap.size W w') := Lib.hid (fun W => by have := ipt_any W qx qy; rwa [hR] at this)
  have KE : Hid (∀ W : World, Calls Try.prog 18 #[.agg #[.int .i64 vx, .int .i64 vy]] W fun e w' => e = .returned (.bool E) ∧ Below W.heap.size W w') := Lib.hid (fun W => by have := ibg_any W vx vy; rwa [hE] at this)
  clear hP hU hR hE hok
  go_enter Try.func24, Try.ntmps24
  go_wp2_with fail
  generalize hW : World.alloc _ _ = W
  have bP : Bk W (w.heap.size) #[.int .i64 px, .int .i64 py] 25 := by rw [← hW]; repeat (first | (refine Bk.new' ?_; (simp; done)) | refine Bk.alloc ?_ _)
  have bU : Bk W (w.heap.size + 1) #[.int .i64 ux, .int .i64 uy] 25 := by rw [← hW]; repeat (first | (refine Bk.new' ?_; (simp; done)) | refine Bk.alloc ?_ _)
  have bQ : Bk W (w.heap.size + 1 + 1) #[.int .i64 qx, .int .i64 qy] 25 := by rw [← hW]; repeat (first | (refine Bk.new' ?_; (simp; done)) | refine Bk.alloc ?_ _)
  have bV : Bk W (w.heap.size + 1 + 1 + 1) #[.int .i64 vx, .int .i64 vy] 25 := by rw [← hW]; repeat (first | (refine Bk.new' ?_; (simp; done)) | refine Bk.alloc ?_ _)
  have bR1 : Bk W (w.heap.size + 1 + 1 + 1 + 1) #[.int .i64 0, .int .i64 0] 34 := by rw [← hW]; repeat (first | (refine Bk.new' ?_; (simp; done)) | refine Bk.alloc ?_ _)
  have bR2 : Bk W (w.heap.size + 1 + 1 + 1 + 1 + 1) #[.int .i64 0, .int .i64 0] 34 := by rw [← hW]; repeat (first | (refine Bk.new' ?_; (simp; done)) | refine Bk.alloc ?_ _)
  have HB : Hid (Below w.heap.size w W) := Lib.hid (by rw [← hW]; exact (by repeat (first | exact Below.refl _ _ | (refine Below.alloc ?_ (by simp <;> omega) _) | (refine Below.setCell ?_ (by simp <;> omega) _) | (refine Below.drew ?_) | (refine bel_drewN ?_ _))))
  clear hW
  refine (KP.out _).mono ?_
  rintro e w1 ⟨rfl, hb⟩
  replace bP := bP.on hb
  replace bU := bU.on hb
  replace bQ := bQ.on hb
  replace bV := bV.on hb
  replace bR1 := bR1.on hb
  replace bR2 := bR2.on hb
  replace HB := Lib.hid (bel_end HB.out hb)
  clear hb
  cases hP : P
  case false =>
    subst hP
    have bP_0 := bP.cell 0 rfl
    have bP_1 := bP.cell 1 rfl
    have bP_l := bP.lt
    have bU_0 := bU.cell 0 rfl
    have bU_1 := bU.cell 1 rfl
    have bU_l := bU.lt
    have bQ_0 := bQ.cell 0 rfl
    have bQ_1 := bQ.cell 1 rfl
    have bQ_l := bQ.lt
    have bV_0 := bV.cell 0 rfl
    have bV_1 := bV.cell 1 rfl
    have bV_l := bV.lt
    have bR1_0 := bR1.cell 0 rfl
    have bR1_1 := bR1.cell 1 rfl
    have bR1_l := bR1.lt
    have bR2_0 := bR2.cell 0 rfl
    have bR2_1 := bR2.cell 1 rfl
    have bR2_l := bR2.lt
    have bR1_f0 := bR1.frozen 0
    have bR1_f1 := bR1.frozen 1
    have bR2_f0 := bR2.frozen 0
    have bR2_f1 := bR2.frozen 1
    go_wp2
    exact bodyPost_ret (v := .tuple #[.agg #[.int .i64 0, .int .i64 0], .agg #[.int .i64 0, .int .i64 0], .int .i64 1]) (by simp [results, Try.results24, go_sem, bR1_0, bR1_f0, bR1_1, bR1_f1, bR1_l, bR2_0, bR2_f0, bR2_1, bR2_f1, bR2_l]) rfl ⟨ret5e (HT.out), (by repeat (first | exact HB.out | (refine Below.setCell ?_ (by simp <;> omega) _) | (refine Below.alloc ?_ (by simp <;> omega) _) | (refine Below.drew ?_)))⟩
  case true =>
    subst hP
    have bP_0 := bP.cell 0 rfl
    have bP_1 := bP.cell 1 rfl
    have bP_l := bP.lt
    have bU_0 := bU.cell 0 rfl
    have bU_1 := bU.cell 1 rfl
    have bU_l := bU.lt
    have bQ_0 := bQ.cell 0 rfl
    have bQ_1 := bQ.cell 1 rfl
    have bQ_l := bQ.lt
    have bV_0 := bV.cell 0 rfl
    have bV_1 := bV.cell 1 rfl
    have bV_l := bV.lt
    have bR1_0 := bR1.cell 0 rfl
    have bR1_1 := bR1.cell 1 rfl
    have bR1_l := bR1.lt
    have bR2_0 := bR2.cell 0 rfl
    have bR2_1 := bR2.cell 1 rfl
    have bR2_l := bR2.lt
    go_wp2_with fail
    refine (KU.out _).mono ?_
    rintro e w2 ⟨rfl, hb⟩
    replace bP := bP.on hb
    replace bU := bU.on hb
    replace bQ := bQ.on hb
    replace bV := bV.on hb
    replace bR1 := bR1.on hb
    replace bR2 := bR2.on hb
    replace HB := Lib.hid (bel_end HB.out hb)
    clear hb
    clear bP_0 bP_1 bP_l bU_0 bU_1 bU_l bQ_0 bQ_1 bQ_l bV_0 bV_1 bV_l bR1_0 bR1_1 bR1_l bR2_0 bR2_1 bR2_l
    cases hP : U
    case false =>
      subst hP
      have bP_0 := bP.cell 0 rfl
      have bP_1 := bP.cell 1 rfl
      have bP_l := bP.lt
      have bU_0 := bU.cell 0 rfl
      have bU_1 := bU.cell 1 rfl
      have bU_l := bU.lt
      have bQ_0 := bQ.cell 0 rfl
      have bQ_1 := bQ.cell 1 rfl
      have bQ_l := bQ.lt
      have bV_0 := bV.cell 0 rfl
      have bV_1 := bV.cell 1 rfl
      have bV_l := bV.lt
      have bR1_0 := bR1.cell 0 rfl
      have bR1_1 := bR1.cell 1 rfl
      have bR1_l := bR1.lt
      have bR2_0 := bR2.cell 0 rfl
      have bR2_1 := bR2.cell 1 rfl
      have bR2_l := bR2.lt
      have bR1_f0 := bR1.frozen 0
      have bR1_f1 := bR1.frozen 1
      have bR2_f0 := bR2.frozen 0
      have bR2_f1 := bR2.frozen 1
      go_wp2
      exact bodyPost_ret (v := .tuple #[.agg #[.int .i64 0, .int .i64 0], .agg #[.int .i64 0, .int .i64 0], .int .i64 1]) (by simp [results, Try.results24, go_sem, bR1_0, bR1_f0, bR1_1, bR1_f1, bR1_l, bR2_0, bR2_f0, bR2_1, bR2_f1, bR2_l]) rfl ⟨ret5e (HT.out), (by repeat (first | exact HB.out | (refine Below.setCell ?_ (by simp <;> omega) _) | (refine Below.alloc ?_ (by simp <;> omega) _) | (refine Below.drew ?_)))⟩
    case true =>
      subst hP
      have bP_0 := bP.cell 0 rfl
      have bP_1 := bP.cell 1 rfl
      have bP_l := bP.lt
      have bU_0 := bU.cell 0 rfl
      have bU_1 := bU.cell 1 rfl
      have bU_l := bU.lt
      have bQ_0 := bQ.cell 0 rfl
      have bQ_1 := bQ.cell 1 rfl
      have bQ_l := bQ.lt
      have bV_0 := bV.cell 0 rfl
      have bV_1 := bV.cell 1 rfl
      have bV_l := bV.lt
      have bR1_0 := bR1.cell 0 rfl
      have bR1_1 := bR1.cell 1 rfl
      have bR1_l := bR1.lt
      have bR2_0 := bR2.cell 0 rfl
      have bR2_1 := bR2.cell 1 rfl
      have bR2_l := bR2.lt
      go_wp2_with fail
      refine (KR.out _).mono ?_
      rintro e w3 ⟨rfl, hb⟩
      replace bP := bP.on hb
      replace bU := bU.on hb
      replace bQ := bQ.on hb
      replace bV := bV.on hb
      replace bR1 := bR1.on hb
      replace bR2 := bR2.on hb
      replace HB := Lib.hid (bel_end HB.out hb)
      clear hb
      clear bP_0 bP_1 bP_l bU_0 bU_1 bU_l bQ_0 bQ_1 bQ_l bV_0 bV_1 bV_l bR1_0 bR1_1 bR1_l bR2_0 bR2_1 bR2_l
      cases hP : R
      case false =>
        subst hP
        have bP_0 := bP.cell 0 rfl
        have bP_1 := bP.cell 1 rfl
        have bP_l := bP.lt
        have bU_0 := bU.cell 0 rfl
        have bU_1 := bU.cell 1 rfl
        have bU_l := bU.lt
        have bQ_0 := bQ.cell 0 rfl
        have bQ_1 := bQ.cell 1 rfl
        have bQ_l := bQ.lt
        have bV_0 := bV.cell 0 rfl
        have bV_1 := bV.cell 1 rfl
        have bV_l := bV.lt
        have bR1_0 := bR1.cell 0 rfl
        have bR1_1 := bR1.cell 1 rfl
        have bR1_l := bR1.lt
        have bR2_0 := bR2.cell 0 rfl
        have bR2_1 := bR2.cell 1 rfl
        have bR2_l := bR2.lt
        have bR1_f0 := bR1.frozen 0
        have bR1_f1 := bR1.frozen 1
        have bR2_f0 := bR2.frozen 0
        have bR2_f1 := bR2.frozen 1
        go_wp2
        exact bodyPost_ret (v := .tuple #[.agg #[.int .i64 0, .int .i64 0], .agg #[.int .i64 0, .int .i64 0], .int .i64 1]) (by simp [results, Try.results24, go_sem, bR1_0, bR1_f0, bR1_1, bR1_f1, bR1_l, bR2_0, bR2_f0, bR2_1, bR2_f1, bR2_l]) rfl ⟨ret5e (HT.out), (by repeat (first | exact HB.out | (refine Below.setCell ?_ (by simp <;> omega) _) | (refine Below.alloc ?_ (by simp <;> omega) _) | (refine Below.drew ?_)))⟩
      case true =>
        subst hP
        obtain rfl : E = false := HO.out
        have bP_0 := bP.cell 0 rfl
        have bP_1 := bP.cell 1 rfl
        have bP_l := bP.lt
        have bU_0 := bU.cell 0 rfl
        have bU_1 := bU.cell 1 rfl
        have bU_l := bU.lt
        have bQ_0 := bQ.cell 0 rfl
        have bQ_1 := bQ.cell 1 rfl
        have bQ_l := bQ.lt
        have bV_0 := bV.cell 0 rfl
        have bV_1 := bV.cell 1 rfl
        have bV_l := bV.lt
        have bR1_0 := bR1.cell 0 rfl
        have bR1_1 := bR1.cell 1 rfl
        have bR1_l := bR1.lt
        have bR2_0 := bR2.cell 0 rfl
        have bR2_1 := bR2.cell 1 rfl
        have bR2_l := bR2.lt
        go_wp2_with fail
        refine (KE.out _).mono ?_
        rintro e w4 ⟨rfl, hb⟩
        replace bP := bP.on hb
        replace bU := bU.on hb
        replace bQ := bQ.on hb
        replace bV := bV.on hb
        replace bR1 := bR1.on hb
        replace bR2 := bR2.on hb
        replace HB := Lib.hid (bel_end HB.out hb)
        clear hb
        clear bP_0 bP_1 bP_l bU_0 bU_1 bU_l bQ_0 bQ_1 bQ_l bV_0 bV_1 bV_l bR1_0 bR1_1 bR1_l bR2_0 bR2_1 bR2_l
        have bP_0 := bP.cell 0 rfl
        have bP_1 := bP.cell 1 rfl
        have bP_l := bP.lt
        have bU_0 := bU.cell 0 rfl
        have bU_1 := bU.cell 1 rfl
        have bU_l := bU.lt
        have bQ_0 := bQ.cell 0 rfl
        have bQ_1 := bQ.cell 1 rfl
        have bQ_l := bQ.lt
        have bV_0 := bV.cell 0 rfl
        have bV_1 := bV.cell 1 rfl
        have bV_l := bV.lt
        have bR1_0 := bR1.cell 0 rfl
        have bR1_1 := bR1.cell 1 rfl
        have bR1_l := bR1.lt
        have bR2_0 := bR2.cell 0 rfl
        have bR2_1 := bR2.cell 1 rfl
        have bR2_l := bR2.lt
        have bR1_f0 := bR1.frozen 0
        have bR1_f1 := bR1.frozen 1
        have bR2_f0 := bR2.frozen 0
        have bR2_f1 := bR2.frozen 1
        go_wp2
        exact bodyPost_ret (v := .tuple #[.agg #[.int .i64 0, .int .i64 0], .agg #[.int .i64 0, .int .i64 0], .int .i64 1]) (by simp [results, Try.results24, go_sem, bR1_0, bR1_f0, bR1_1, bR1_f1, bR1_l, bR2_0, bR2_f0, bR2_1, bR2_f1, bR2_l]) rfl ⟨ret5e (HT.out), (by repeat (first | exact HB.out | (refine Below.setCell ?_ (by simp <;> omega) _) | (refine Below.alloc ?_ (by simp <;> omega) _) | (refine Below.drew ?_)))⟩

set_option maxRecDepth 100000 in
set_option maxHeartbeats 8000000 in
theorem icf_ok (w : World) (px py ux uy qx qy vx vy : Int) (hok : cfB px py ux uy qx qy vx vy = true) :
    Calls Try.prog 24 #[.agg #[.int .i64 px, .int .i64 py], .agg #[.int .i64 ux, .int .i64 uy], .agg #[.int .i64 qx, .int .i64 qy], .agg #[.int .i64 vx, .int .i64 vy]] w fun e w' => e = .returned (.tuple #[.agg #[.int .i64 (cfT px py ux uy qx qy vx vy).1, .int .i64 (cfT px py ux uy qx qy vx vy).2.1], .agg #[.int .i64 (cfT px py ux uy qx qy vx vy).2.2.1, .int .i64 (cfT px py ux uy qx qy vx vy).2.2.2.1], .int .i64 (cfT px py ux uy qx qy vx vy).2.2.2.2]) ∧ Below w.heap.size w w' := by
  have hk := hok
  unfold cfB at hk
  rw [Bool.and_eq_true, Bool.and_eq_true, Bool.and_eq_true] at hk
  obtain ⟨⟨⟨hP, hU⟩, hR⟩, hE⟩ := hk
  have KP : Hid (∀ W : World, Calls Try.prog 52 #[.agg #[.int .i64 px, .int .i64 py]] W fun e w' => e = .returned (.bool true) ∧ Below W.heap.size W w') := Lib.hid (fun W => by have := ipt_any W px py; rwa [hP] at this)
  have KU : Hid (∀ W : World, Calls Try.prog 18 #[.agg #[.int .i64 ux, .int .i64 uy]] W fun e w' => e = .returned (.bool true) ∧ Below W.heap.size W w') := Lib.hid (fun W => by have := ibg_any W ux uy; rwa [hU] at this)
  have KR : Hid (∀ W : World, Calls Try.prog 52 #[.agg #[.int .i64 qx, .int .i64 qy]] W fun e w' => e = .returned (.bool true) ∧ Below W.heap.size W w') := Lib.hid (fun W => by have := ipt_any W qx qy; rwa [hR] at this)
  have KE : Hid (∀ W : World, Calls Try.prog 18 #[.agg #[.int .i64 vx, .int .i64 vy]] W fun e w' => e = .returned (.bool true) ∧ Below W.heap.size W w') := Lib.hid (fun W => by have := ibg_any W vx vy; rwa [hE] at this)
  have p := ptB_t hP
  have r := ptB_t hR
  have u := (brB_t hU).1
  have v := (brB_t hE).1
  have HT0 : cfT px py ux uy qx qy vx vy = if crs ux uy vx vy = 0 then (0, 0, 0, 0, 5) else if cfN px py ux uy qx qy vx vy then (0, 0, 0, 0, 4) else if (cfX px py ux uy qx qy vx vy).2.2 = 0 ∧ (cfY px py ux uy qx qy vx vy).2.2 = 0 then ((cfX px py ux uy qx qy vx vy).1, (cfX px py ux uy qx qy vx vy).2.1, (cfY px py ux uy qx qy vx vy).1, (cfY px py ux uy qx qy vx vy).2.1, 0) else (0, 0, 0, 0, 3) := by unfold cfT; rw [hok]; rfl
  have HN0 : cfN px py ux uy qx qy vx vy ↔ (crs (qx - px) (qy - py) vx vy * crs ux uy vx vy < 0 ∨ crs (qx - px) (qy - py) ux uy * crs ux uy vx vy < 0) := Iff.rfl
  have HX0 : cfX px py ux uy qx qy vx vy = rlT (px * crs ux uy vx vy + ux * crs (qx - px) (qy - py) vx vy) (crs ux uy vx vy) := rfl
  have HY0 : cfY px py ux uy qx qy vx vy = rlT (py * crs ux uy vx vy + uy * crs (qx - px) (qy - py) vx vy) (crs ux uy vx vy) := rfl
  clear hok hP hU hR hE
  have KM : Hid (∀ W : World, Calls Try.prog 54 #[.agg #[.int .i64 qx, .int .i64 qy], .agg #[.int .i64 px, .int .i64 py]] W fun e w' => e = .returned (.agg #[.int .i64 (qx - px), .int .i64 (qy - py)]) ∧ Below W.heap.size W w') := Lib.hid (fun W => imn_any W qx qy px py (by omega) (by omega) (by omega) (by omega) (by omega) (by omega) (by omega) (by omega))
  obtain ⟨X, hX⟩ : ∃ q, qx - px = q := ⟨_, rfl⟩
  obtain ⟨Y, hY⟩ : ∃ q, qy - py = q := ⟨_, rfl⟩
  have x1 : -200000 ≤ X ∧ X ≤ 200000 := by omega
  have y1 : -200000 ≤ Y ∧ Y ≤ 200000 := by omega
  rw [hX, hY] at KM HN0 HX0 HY0
  clear hX hY
  have c1 := mul_abs (a := ux) (n := vy) (A := 1000) (N := 1000) (by omega) (by omega)
  have c2 := mul_abs (a := uy) (n := vx) (A := 1000) (N := 1000) (by omega) (by omega)
  have c3 := mul_abs (a := X) (n := vy) (A := 200000) (N := 1000) (by omega) (by omega)
  have c4 := mul_abs (a := Y) (n := vx) (A := 200000) (N := 1000) (by omega) (by omega)
  have c5 := mul_abs (a := X) (n := uy) (A := 200000) (N := 1000) (by omega) (by omega)
  have c6 := mul_abs (a := Y) (n := ux) (A := 200000) (N := 1000) (by omega) (by omega)
  have K1 : Hid (∀ W : World, Calls Try.prog 60 #[.agg #[.int .i64 ux, .int .i64 uy], .agg #[.int .i64 vx, .int .i64 vy]] W fun e w' => e = .returned (.int .i64 (crs ux uy vx vy)) ∧ Below W.heap.size W w') := Lib.hid (fun W => icr_any W ux uy vx vy (by omega) (by omega) (by omega) (by omega))
  have K2 : Hid (∀ W : World, Calls Try.prog 60 #[.agg #[.int .i64 X, .int .i64 Y], .agg #[.int .i64 vx, .int .i64 vy]] W fun e w' => e = .returned (.int .i64 (crs X Y vx vy)) ∧ Below W.heap.size W w') := Lib.hid (fun W => icr_any W X Y vx vy (by omega) (by omega) (by omega) (by omega))
  have K3 : Hid (∀ W : World, Calls Try.prog 60 #[.agg #[.int .i64 X, .int .i64 Y], .agg #[.int .i64 ux, .int .i64 uy]] W fun e w' => e = .returned (.int .i64 (crs X Y ux uy)) ∧ Below W.heap.size W w') := Lib.hid (fun W => icr_any W X Y ux uy (by omega) (by omega) (by omega) (by omega))
  have bD : -2000000 ≤ crs ux uy vx vy ∧ crs ux uy vx vy ≤ 2000000 := by unfold crs; omega
  have bT : -400000000 ≤ crs X Y vx vy ∧ crs X Y vx vy ≤ 400000000 := by unfold crs; omega
  have bL : -400000000 ≤ crs X Y ux uy ∧ crs X Y ux uy ≤ 400000000 := by unfold crs; omega
  clear c1 c2 c3 c4 c5 c6 x1 y1
  obtain ⟨D, hD⟩ : ∃ q, crs ux uy vx vy = q := ⟨_, rfl⟩
  obtain ⟨T, hT⟩ : ∃ q, crs X Y vx vy = q := ⟨_, rfl⟩
  obtain ⟨L, hL⟩ : ∃ q, crs X Y ux uy = q := ⟨_, rfl⟩
  rw [hD] at K1 HT0 HN0 HX0 HY0 bD
  rw [hT] at K2 HN0 HX0 HY0 bT
  rw [hL] at K3 HN0 bL
  clear hD hT hL
  have d1 := mul_abs (a := T) (n := D) (A := 400000000) (N := 2000000) (by omega) (by omega)
  have d2 := mul_abs (a := L) (n := D) (A := 400000000) (N := 2000000) (by omega) (by omega)
  have d3 := mul_abs (a := px) (n := D) (A := 100000) (N := 2000000) (by omega) (by omega)
  have d4 := mul_abs (a := ux) (n := T) (A := 1000) (N := 400000000) (by omega) (by omega)
  have d5 := mul_abs (a := py) (n := D) (A := 100000) (N := 2000000) (by omega) (by omega)
  have d6 := mul_abs (a := uy) (n := T) (A := 1000) (N := 400000000) (by omega) (by omega)
  obtain ⟨A1, hA1⟩ : ∃ q, px * D = q := ⟨_, rfl⟩
  obtain ⟨A2, hA2⟩ : ∃ q, ux * T = q := ⟨_, rfl⟩
  obtain ⟨A3, hA3⟩ : ∃ q, py * D = q := ⟨_, rfl⟩
  obtain ⟨A4, hA4⟩ : ∃ q, uy * T = q := ⟨_, rfl⟩
  obtain ⟨TD, hTD⟩ : ∃ q, T * D = q := ⟨_, rfl⟩
  obtain ⟨LD, hLD⟩ : ∃ q, L * D = q := ⟨_, rfl⟩
  rw [hA1] at d3 HX0
  rw [hA2] at d4 HX0
  rw [hA3] at d5 HY0
  rw [hA4] at d6 HY0
  rw [hTD] at HN0 d1
  rw [hLD] at HN0 d2
  have wA1 : IntKind.wrap .i64 (px * D) = A1 := by rw [hA1]; exact IntWalk.i64_in _ (by omega)
  have wA2 : IntKind.wrap .i64 (ux * T) = A2 := by rw [hA2]; exact IntWalk.i64_in _ (by omega)
  have wA3 : IntKind.wrap .i64 (py * D) = A3 := by rw [hA3]; exact IntWalk.i64_in _ (by omega)
  have wA4 : IntKind.wrap .i64 (uy * T) = A4 := by rw [hA4]; exact IntWalk.i64_in _ (by omega)
  have wTD : IntKind.wrap .i64 (T * D) = TD := by rw [hTD]; exact IntWalk.i64_in _ (by omega)
  have wLD : IntKind.wrap .i64 (L * D) = LD := by rw [hLD]; exact IntWalk.i64_in _ (by omega)
  obtain ⟨NX, hNX⟩ : ∃ q, A1 + A2 = q := ⟨_, rfl⟩
  obtain ⟨NY, hNY⟩ : ∃ q, A3 + A4 = q := ⟨_, rfl⟩
  have wNX : IntKind.wrap .i64 (A1 + A2) = NX := by rw [hNX]; exact IntWalk.i64_in _ (by omega)
  have wNY : IntKind.wrap .i64 (A3 + A4) = NY := by rw [hNY]; exact IntWalk.i64_in _ (by omega)
  rw [hNX] at HX0
  rw [hNY] at HY0
  have n1 : -1000000000000 ≤ NX ∧ NX ≤ 1000000000000 := by omega
  have n2 : -1000000000000 ≤ NY ∧ NY ≤ 1000000000000 := by omega
  obtain ⟨⟨xn, xd, xe⟩, hx⟩ : ∃ q, rlT NX D = q := ⟨_, rfl⟩
  obtain ⟨⟨yn, yd, ye⟩, hy⟩ : ∃ q, rlT NY D = q := ⟨_, rfl⟩
  have cx := rlT_code NX D
  have cy := rlT_code NY D
  rw [hx] at HX0 cx
  rw [hy] at HY0 cy
  have KX : Hid (¬ D = 0 → ∀ W : World, Calls Try.prog 61 #[.int .i64 NX, .int .i64 D] W fun e' w' => e' = .returned (.tuple #[.agg #[.int .i64 xn, .int .i64 xd], .int .i64 xe]) ∧ Below W.heap.size W w') := Lib.hid (fun h W => irl_is hx (by omega) (by omega) (by omega) (by omega) h W)
  have KY : Hid (¬ D = 0 → ∀ W : World, Calls Try.prog 61 #[.int .i64 NY, .int .i64 D] W fun e' w' => e' = .returned (.tuple #[.agg #[.int .i64 yn, .int .i64 yd], .int .i64 ye]) ∧ Below W.heap.size W w') := Lib.hid (fun h W => irl_is hy (by omega) (by omega) (by omega) (by omega) h W)
  rw [HX0, HY0] at HT0
  dsimp only at HT0 cx cy
  replace HT0 := Lib.hid HT0
  replace HN0 := Lib.hid HN0
  have CX := Lib.hid cx
  have CY := Lib.hid cy
  have WW := Lib.hid (And.intro wA1 (And.intro wA2 (And.intro wA3 (And.intro wA4 (And.intro wTD (And.intro wLD (And.intro wNX wNY)))))))
  clear wA1 wA2 wA3 wA4 wTD wLD wNX wNY cx cy hx hy HX0 HY0 n1 n2 hNX hNY hA1 hA2 hA3 hA4 hTD hLD d1 d2 d3 d4 d5 d6 bD bT bL p r u v
  go_enter Try.func24, Try.ntmps24
  go_wp2_with fail
  generalize hW : World.alloc _ _ = W
  have bP : Bk W (w.heap.size) #[.int .i64 px, .int .i64 py] 25 := by rw [← hW]; repeat (first | (refine Bk.new' ?_; (simp; done)) | refine Bk.alloc ?_ _)
  have bU : Bk W (w.heap.size + 1) #[.int .i64 ux, .int .i64 uy] 25 := by rw [← hW]; repeat (first | (refine Bk.new' ?_; (simp; done)) | refine Bk.alloc ?_ _)
  have bQ : Bk W (w.heap.size + 1 + 1) #[.int .i64 qx, .int .i64 qy] 25 := by rw [← hW]; repeat (first | (refine Bk.new' ?_; (simp; done)) | refine Bk.alloc ?_ _)
  have bV : Bk W (w.heap.size + 1 + 1 + 1) #[.int .i64 vx, .int .i64 vy] 25 := by rw [← hW]; repeat (first | (refine Bk.new' ?_; (simp; done)) | refine Bk.alloc ?_ _)
  have bR1 : Bk W (w.heap.size + 1 + 1 + 1 + 1) #[.int .i64 0, .int .i64 0] 34 := by rw [← hW]; repeat (first | (refine Bk.new' ?_; (simp; done)) | refine Bk.alloc ?_ _)
  have bR2 : Bk W (w.heap.size + 1 + 1 + 1 + 1 + 1) #[.int .i64 0, .int .i64 0] 34 := by rw [← hW]; repeat (first | (refine Bk.new' ?_; (simp; done)) | refine Bk.alloc ?_ _)
  have HB : Hid (Below w.heap.size w W) := Lib.hid (by rw [← hW]; exact (by repeat (first | exact Below.refl _ _ | (refine Below.alloc ?_ (by simp <;> omega) _) | (refine Below.setCell ?_ (by simp <;> omega) _) | (refine Below.drew ?_) | (refine bel_drewN ?_ _))))
  clear hW
  refine (KP.out _).mono ?_
  rintro e w1 ⟨rfl, hb⟩
  replace bP := bP.on hb
  replace bU := bU.on hb
  replace bQ := bQ.on hb
  replace bV := bV.on hb
  replace bR1 := bR1.on hb
  replace bR2 := bR2.on hb
  replace HB := Lib.hid (bel_end HB.out hb)
  clear hb
  have bP_0 := bP.cell 0 rfl
  have bP_1 := bP.cell 1 rfl
  have bP_l := bP.lt
  have bU_0 := bU.cell 0 rfl
  have bU_1 := bU.cell 1 rfl
  have bU_l := bU.lt
  have bQ_0 := bQ.cell 0 rfl
  have bQ_1 := bQ.cell 1 rfl
  have bQ_l := bQ.lt
  have bV_0 := bV.cell 0 rfl
  have bV_1 := bV.cell 1 rfl
  have bV_l := bV.lt
  have bR1_0 := bR1.cell 0 rfl
  have bR1_1 := bR1.cell 1 rfl
  have bR1_l := bR1.lt
  have bR2_0 := bR2.cell 0 rfl
  have bR2_1 := bR2.cell 1 rfl
  have bR2_l := bR2.lt
  go_wp2_with fail
  refine (KU.out _).mono ?_
  rintro e w2 ⟨rfl, hb⟩
  replace bP := bP.on hb
  replace bU := bU.on hb
  replace bQ := bQ.on hb
  replace bV := bV.on hb
  replace bR1 := bR1.on hb
  replace bR2 := bR2.on hb
  replace HB := Lib.hid (bel_end HB.out hb)
  clear hb
  clear bP_0 bP_1 bP_l bU_0 bU_1 bU_l bQ_0 bQ_1 bQ_l bV_0 bV_1 bV_l bR1_0 bR1_1 bR1_l bR2_0 bR2_1 bR2_l
  have bP_0 := bP.cell 0 rfl
  have bP_1 := bP.cell 1 rfl
  have bP_l := bP.lt
  have bU_0 := bU.cell 0 rfl
  have bU_1 := bU.cell 1 rfl
  have bU_l := bU.lt
  have bQ_0 := bQ.cell 0 rfl
  have bQ_1 := bQ.cell 1 rfl
  have bQ_l := bQ.lt
  have bV_0 := bV.cell 0 rfl
  have bV_1 := bV.cell 1 rfl
  have bV_l := bV.lt
  have bR1_0 := bR1.cell 0 rfl
  have bR1_1 := bR1.cell 1 rfl
  have bR1_l := bR1.lt
  have bR2_0 := bR2.cell 0 rfl
  have bR2_1 := bR2.cell 1 rfl
  have bR2_l := bR2.lt
  go_wp2_with fail
  refine (KR.out _).mono ?_
  rintro e w3 ⟨rfl, hb⟩
  replace bP := bP.on hb
  replace bU := bU.on hb
  replace bQ := bQ.on hb
  replace bV := bV.on hb
  replace bR1 := bR1.on hb
  replace bR2 := bR2.on hb
  replace HB := Lib.hid (bel_end HB.out hb)
  clear hb
  clear bP_0 bP_1 bP_l bU_0 bU_1 bU_l bQ_0 bQ_1 bQ_l bV_0 bV_1 bV_l bR1_0 bR1_1 bR1_l bR2_0 bR2_1 bR2_l
  have bP_0 := bP.cell 0 rfl
  have bP_1 := bP.cell 1 rfl
  have bP_l := bP.lt
  have bU_0 := bU.cell 0 rfl
  have bU_1 := bU.cell 1 rfl
  have bU_l := bU.lt
  have bQ_0 := bQ.cell 0 rfl
  have bQ_1 := bQ.cell 1 rfl
  have bQ_l := bQ.lt
  have bV_0 := bV.cell 0 rfl
  have bV_1 := bV.cell 1 rfl
  have bV_l := bV.lt
  have bR1_0 := bR1.cell 0 rfl
  have bR1_1 := bR1.cell 1 rfl
  have bR1_l := bR1.lt
  have bR2_0 := bR2.cell 0 rfl
  have bR2_1 := bR2.cell 1 rfl
  have bR2_l := bR2.lt
  go_wp2_with fail
  refine (KE.out _).mono ?_
  rintro e w4 ⟨rfl, hb⟩
  replace bP := bP.on hb
  replace bU := bU.on hb
  replace bQ := bQ.on hb
  replace bV := bV.on hb
  replace bR1 := bR1.on hb
  replace bR2 := bR2.on hb
  replace HB := Lib.hid (bel_end HB.out hb)
  clear hb
  clear bP_0 bP_1 bP_l bU_0 bU_1 bU_l bQ_0 bQ_1 bQ_l bV_0 bV_1 bV_l bR1_0 bR1_1 bR1_l bR2_0 bR2_1 bR2_l
  have bP_0 := bP.cell 0 rfl
  have bP_1 := bP.cell 1 rfl
  have bP_l := bP.lt
  have bU_0 := bU.cell 0 rfl
  have bU_1 := bU.cell 1 rfl
  have bU_l := bU.lt
  have bQ_0 := bQ.cell 0 rfl
  have bQ_1 := bQ.cell 1 rfl
  have bQ_l := bQ.lt
  have bV_0 := bV.cell 0 rfl
  have bV_1 := bV.cell 1 rfl
  have bV_l := bV.lt
  have bR1_0 := bR1.cell 0 rfl
  have bR1_1 := bR1.cell 1 rfl
  have bR1_l := bR1.lt
  have bR2_0 := bR2.cell 0 rfl
  have bR2_1 := bR2.cell 1 rfl
  have bR2_l := bR2.lt
  go_wp2_with fail
  refine (K1.out _).mono ?_
  rintro e w5 ⟨rfl, hb⟩
  replace bP := bP.on hb
  replace bU := bU.on hb
  replace bQ := bQ.on hb
  replace bV := bV.on hb
  replace bR1 := bR1.on hb
  replace bR2 := bR2.on hb
  replace HB := Lib.hid (bel_end HB.out hb)
  clear hb
  clear bP_0 bP_1 bP_l bU_0 bU_1 bU_l bQ_0 bQ_1 bQ_l bV_0 bV_1 bV_l bR1_0 bR1_1 bR1_l bR2_0 bR2_1 bR2_l
  by_cases hD : D = 0
  case pos =>
    have HT : Hid (cfT px py ux uy qx qy vx vy = (0, 0, 0, 0, 5)) := Lib.hid (by rw [HT0.out]; exact if_pos hD)
    subst hD
    have bP_0 := bP.cell 0 rfl
    have bP_1 := bP.cell 1 rfl
    have bP_l := bP.lt
    have bU_0 := bU.cell 0 rfl
    have bU_1 := bU.cell 1 rfl
    have bU_l := bU.lt
    have bQ_0 := bQ.cell 0 rfl
    have bQ_1 := bQ.cell 1 rfl
    have bQ_l := bQ.lt
    have bV_0 := bV.cell 0 rfl
    have bV_1 := bV.cell 1 rfl
    have bV_l := bV.lt
    have bR1_0 := bR1.cell 0 rfl
    have bR1_1 := bR1.cell 1 rfl
    have bR1_l := bR1.lt
    have bR2_0 := bR2.cell 0 rfl
    have bR2_1 := bR2.cell 1 rfl
    have bR2_l := bR2.lt
    go_upto_region 5 with fail
    go_cut [10] from 43 to 44 (fun s10 wx => s10 = .int .i64 5 ∧ Bk wx (w.heap.size + 1 + 1 + 1 + 1) #[.int .i64 0, .int .i64 0] 34 ∧ Bk wx (w.heap.size + 1 + 1 + 1 + 1 + 1) #[.int .i64 0, .int .i64 0] 34 ∧ Below w.heap.size w wx)
    case first =>
      have bR1_f0 := bR1.frozen 0
      have bR1_f1 := bR1.frozen 1
      have bR2_f0 := bR2.frozen 0
      have bR2_f1 := bR2.frozen 1
      go_wp2_with fail
      go_meet
      exact ⟨rfl, (((bR1.set 0 _ rfl).set 1 _ rfl).other (by omega) 0 _).other (by omega) 1 _, (((bR2.other (by omega) 0 _).other (by omega) 1 _).set 0 _ rfl).set 1 _ rfl, (by repeat (first | exact HB.out | (refine Below.setCell ?_ (by simp <;> omega) _) | (refine Below.alloc ?_ (by simp <;> omega) _) | (refine Below.drew ?_)))⟩
    case rest =>
      obtain ⟨rfl, z1, z2, hbz⟩ := hcut
      have c0 := z1.cell 0 rfl
      have c1 := z1.cell 1 rfl
      have c2 := z2.cell 0 rfl
      have c3 := z2.cell 1 rfl
      repeat (first | go_step | go_skip)
      exact bodyPost_ret (v := .tuple #[.agg #[.int .i64 0, .int .i64 0], .agg #[.int .i64 0, .int .i64 0], .int .i64 5]) (by simp [results, Try.results24, go_sem, c0, c1, c2, c3]) rfl ⟨ret5e (HT.out), hbz⟩
  case neg =>
    have hD2 : (D == 0) = false := by simpa using hD
    replace HT0 := Lib.hid (HT0.out.trans (if_neg hD))
    replace KX := Lib.hid (KX.out hD)
    replace KY := Lib.hid (KY.out hD)
    clear hD
    have bP_0 := bP.cell 0 rfl
    have bP_1 := bP.cell 1 rfl
    have bP_l := bP.lt
    have bU_0 := bU.cell 0 rfl
    have bU_1 := bU.cell 1 rfl
    have bU_l := bU.lt
    have bQ_0 := bQ.cell 0 rfl
    have bQ_1 := bQ.cell 1 rfl
    have bQ_l := bQ.lt
    have bV_0 := bV.cell 0 rfl
    have bV_1 := bV.cell 1 rfl
    have bV_l := bV.lt
    have bR1_0 := bR1.cell 0 rfl
    have bR1_1 := bR1.cell 1 rfl
    have bR1_l := bR1.lt
    have bR2_0 := bR2.cell 0 rfl
    have bR2_1 := bR2.cell 1 rfl
    have bR2_l := bR2.lt
    go_wp2_with fail
    refine (KM.out _).mono ?_
    rintro e w6 ⟨rfl, hb⟩
    replace bP := bP.on hb
    replace bU := bU.on hb
    replace bQ := bQ.on hb
    replace bV := bV.on hb
    replace bR1 := bR1.on hb
    replace bR2 := bR2.on hb
    replace HB := Lib.hid (bel_end HB.out hb)
    clear hb
    clear bP_0 bP_1 bP_l bU_0 bU_1 bU_l bQ_0 bQ_1 bQ_l bV_0 bV_1 bV_l bR1_0 bR1_1 bR1_l bR2_0 bR2_1 bR2_l
    have bP_0 := bP.cell 0 rfl
    have bP_1 := bP.cell 1 rfl
    have bP_l := bP.lt
    have bU_0 := bU.cell 0 rfl
    have bU_1 := bU.cell 1 rfl
    have bU_l := bU.lt
    have bQ_0 := bQ.cell 0 rfl
    have bQ_1 := bQ.cell 1 rfl
    have bQ_l := bQ.lt
    have bV_0 := bV.cell 0 rfl
    have bV_1 := bV.cell 1 rfl
    have bV_l := bV.lt
    have bR1_0 := bR1.cell 0 rfl
    have bR1_1 := bR1.cell 1 rfl
    have bR1_l := bR1.lt
    have bR2_0 := bR2.cell 0 rfl
    have bR2_1 := bR2.cell 1 rfl
    have bR2_l := bR2.lt
    go_upto_region 7 with fail
    clear bP_0 bP_1 bP_l bU_0 bU_1 bU_l bQ_0 bQ_1 bQ_l bV_0 bV_1 bV_l bR1_0 bR1_1 bR1_l bR2_0 bR2_1 bR2_l
    generalize hW : World.alloc _ _ = WbN
    obtain ⟨gN, hg⟩ : ∃ g, g = w6.heap.size := ⟨_, rfl⟩
    have bN : Bk WbN gN #[.int .i64 X, .int .i64 Y] 25 := by rw [← hW]; exact Bk.new' hg
    have hb : Below w6.heap.size w6 WbN := by rw [← hW]; exact (Below.refl _ _).alloc (Nat.le_refl _) _
    have nebN_bP : gN ≠ w.heap.size := by have := bP.lt; omega
    have nebN_bU : gN ≠ w.heap.size + 1 := by have := bU.lt; omega
    have nebN_bQ : gN ≠ w.heap.size + 1 + 1 := by have := bQ.lt; omega
    have nebN_bV : gN ≠ w.heap.size + 1 + 1 + 1 := by have := bV.lt; omega
    have nebN_bR1 : gN ≠ w.heap.size + 1 + 1 + 1 + 1 := by have := bR1.lt; omega
    have nebN_bR2 : gN ≠ w.heap.size + 1 + 1 + 1 + 1 + 1 := by have := bR2.lt; omega
    try rw [← hg]
    clear hW hg
    replace bP := bP.on hb
    replace bU := bU.on hb
    replace bQ := bQ.on hb
    replace bV := bV.on hb
    replace bR1 := bR1.on hb
    replace bR2 := bR2.on hb
    replace HB := Lib.hid (bel_end HB.out hb)
    clear hb
    have bP_0 := bP.cell 0 rfl
    have bP_1 := bP.cell 1 rfl
    have bP_l := bP.lt
    have bU_0 := bU.cell 0 rfl
    have bU_1 := bU.cell 1 rfl
    have bU_l := bU.lt
    have bQ_0 := bQ.cell 0 rfl
    have bQ_1 := bQ.cell 1 rfl
    have bQ_l := bQ.lt
    have bV_0 := bV.cell 0 rfl
    have bV_1 := bV.cell 1 rfl
    have bV_l := bV.lt
    have bR1_0 := bR1.cell 0 rfl
    have bR1_1 := bR1.cell 1 rfl
    have bR1_l := bR1.lt
    have bR2_0 := bR2.cell 0 rfl
    have bR2_1 := bR2.cell 1 rfl
    have bR2_l := bR2.lt
    have bN_0 := bN.cell 0 rfl
    have bN_1 := bN.cell 1 rfl
    have bN_l := bN.lt
    go_upto_region 7 with fail
    clear bP_0 bP_1 bP_l bU_0 bU_1 bU_l bQ_0 bQ_1 bQ_l bV_0 bV_1 bV_l bR1_0 bR1_1 bR1_l bR2_0 bR2_1 bR2_l bN_0 bN_1 bN_l
    go_cut [13, 14, 48, 49, 50, 51, 52, 53] from 48 to 53 (fun s13 s14 s48 s49 s50 s51 s52 s53 wx => s13 = .int .i64 T ∧ s14 = .int .i64 L ∧ s48 = .agg #[.int .i64 X, .int .i64 Y] ∧ s49 = .agg #[.int .i64 vx, .int .i64 vy] ∧ s50 = .int .i64 T ∧ s51 = .agg #[.int .i64 X, .int .i64 Y] ∧ s52 = .agg #[.int .i64 ux, .int .i64 uy] ∧ s53 = .int .i64 L ∧ Below WbN.heap.size WbN wx)
    case first =>
      have HW : Hid (Below WbN.heap.size WbN WbN) := Lib.hid (Below.refl _ _)
      obtain ⟨S, hSd⟩ : ∃ S : World → Prop, ∀ w', S w' ↔ (w'.cell? ⟨gN, 0, none⟩ = some (.int .i64 X) ∧ w'.cell? ⟨gN, 1, none⟩ = some (.int .i64 Y) ∧ w'.cell? ⟨w.heap.size + 1, 0, none⟩ = some (.int .i64 ux) ∧ w'.cell? ⟨w.heap.size + 1, 1, none⟩ = some (.int .i64 uy) ∧ w'.cell? ⟨w.heap.size + 1 + 1 + 1, 0, none⟩ = some (.int .i64 vx) ∧ w'.cell? ⟨w.heap.size + 1 + 1 + 1, 1, none⟩ = some (.int .i64 vy)) := ⟨_, fun _ => Iff.rfl⟩
      have HSp : Hid (∀ w' : World, Bk w' (gN) #[.int .i64 X, .int .i64 Y] 25 → Bk w' (w.heap.size + 1) #[.int .i64 ux, .int .i64 uy] 25 → Bk w' (w.heap.size + 1 + 1 + 1) #[.int .i64 vx, .int .i64 vy] 25 → S w') := Lib.hid (fun w' bN bU bV => (hSd w').2 ⟨bN.cell 0 rfl, bN.cell 1 rfl, bU.cell 0 rfl, bU.cell 1 rfl, bV.cell 0 rfl, bV.cell 1 rfl⟩)
      have HSd := Lib.hid hSd
      clear hSd
      refine wp_region_held_drew (S := S) (by kernel_rfl) ?_ (fun hH => ?_)
      · exact (HSp.out _ bN bU bV : S (World.drew WbN))
      clear hH
      generalize hX : World.drew WbN = V0
      replace bU : Bk V0 (w.heap.size + 1) #[.int .i64 ux, .int .i64 uy] 25 := by rw [← hX]; exact bU
      replace bV : Bk V0 (w.heap.size + 1 + 1 + 1) #[.int .i64 vx, .int .i64 vy] 25 := by rw [← hX]; exact bV
      replace bN : Bk V0 (gN) #[.int .i64 X, .int .i64 Y] 25 := by rw [← hX]; exact bN
      have hb : Below WbN.heap.size WbN V0 := by rw [← hX]; exact (Below.refl _ _).drew
      clear hX
      replace HW := Lib.hid (bel_end HW.out hb)
      clear hb
      have hS := HSp.out _ bN bU bV
      refine wpAnyH_take (i := 0) (oi := { dst := some 48, op := Go.Op.load 25 (Go.Operand.tmp 12), type := 25, pos := "l12_bearings.go:70", after := #[], guard := none }) (v := ?_) rfl (by kernel_rfl) (by kernel_rfl) (by kernel_rfl) (fun _ _ _ h => h) (Or.inl ⟨by rfl, ?_⟩) hS ?_
      rotate_left
      · (intro w hSw; have hSw := (HSd.out w).1 hSw; go_split_ands; go_simp) <;> with_reducible rfl
      clear hS
      try simp only [Act.put, List.setIfInBounds_toArray, List.set_cons_zero, List.set_cons_succ]
      have hS := HSp.out _ bN bU bV
      refine wpAnyH_take (i := 1) (oi := { dst := some 49, op := Go.Op.load 25 (Go.Operand.tmp 7), type := 25, pos := "l12_bearings.go:70", after := #[], guard := none }) (v := ?_) rfl (by kernel_rfl) (by kernel_rfl) (by kernel_rfl) (fun _ _ _ h => h) (Or.inl ⟨by rfl, ?_⟩) hS ?_
      rotate_left
      · (intro w hSw; have hSw := (HSd.out w).1 hSw; go_split_ands; go_simp) <;> with_reducible rfl
      clear hS
      try simp only [Act.put, List.setIfInBounds_toArray, List.set_cons_zero, List.set_cons_succ]
      have hS := HSp.out _ bN bU bV
      refine wpAnyH_take (i := 3) (oi := { dst := some 51, op := Go.Op.load 25 (Go.Operand.tmp 12), type := 25, pos := "l12_bearings.go:70", after := #[], guard := none }) (v := ?_) rfl (by kernel_rfl) (by kernel_rfl) (by kernel_rfl) (fun _ _ _ h => h) (Or.inl ⟨by rfl, ?_⟩) hS ?_
      rotate_left
      · (intro w hSw; have hSw := (HSd.out w).1 hSw; go_split_ands; go_simp) <;> with_reducible rfl
      clear hS
      try simp only [Act.put, List.setIfInBounds_toArray, List.set_cons_zero, List.set_cons_succ]
      have hS := HSp.out _ bN bU bV
      refine wpAnyH_take (i := 4) (oi := { dst := some 52, op := Go.Op.load 25 (Go.Operand.tmp 5), type := 25, pos := "l12_bearings.go:70", after := #[], guard := none }) (v := ?_) rfl (by kernel_rfl) (by kernel_rfl) (by kernel_rfl) (fun _ _ _ h => h) (Or.inl ⟨by rfl, ?_⟩) hS ?_
      rotate_left
      · (intro w hSw; have hSw := (HSd.out w).1 hSw; go_split_ands; go_simp) <;> with_reducible rfl
      clear hS
      try simp only [Act.put, List.setIfInBounds_toArray, List.set_cons_zero, List.set_cons_succ]
      refine wpAnyH_ready (rs := [2]) (by kernel_rfl) (by simp) ?_
      refine AllReadyH.cons (o := { dst := some 50, op := Go.Op.call { callee := Go.Callee.value (Go.Operand.func 60), args := #[Go.Operand.tmp 48, Go.Operand.tmp 49], argTypes := #[25, 25] }, type := 2, pos := "l12_bearings.go:70", after := #[{ on := 0, ground := Go.Ground.data }, { on := 1, ground := Go.Ground.data }], guard := none }) rfl (fun Kn hK => ?_) AllReadyH.nil
      first | go_at_call 60 | (go_simp; go_at_call 60)
      (with_reducible refine Calls.mono (K2.out  _) ?_)
      rintro e V1 ⟨rfl, hb⟩
      try dsimp only
      try simp only [Act.put, List.setIfInBounds_toArray, List.set_cons_zero, List.set_cons_succ]
      replace bU := bU.on hb
      replace bV := bV.on hb
      replace bN := bN.on hb
      replace HW := Lib.hid (bel_end HW.out hb)
      clear hb
      refine hK.out _ _ (HSp.out _ bN bU bV) (fun _ => ?_)
      clear hK Kn
      refine wpAnyH_ready (rs := [5]) (by kernel_rfl) (by simp) ?_
      refine AllReadyH.cons (o := { dst := some 53, op := Go.Op.call { callee := Go.Callee.value (Go.Operand.func 60), args := #[Go.Operand.tmp 51, Go.Operand.tmp 52], argTypes := #[25, 25] }, type := 2, pos := "l12_bearings.go:70", after := #[{ on := 3, ground := Go.Ground.data }, { on := 4, ground := Go.Ground.data }, { on := 2, ground := Go.Ground.chain }], guard := none }) rfl (fun Kn hK => ?_) AllReadyH.nil
      first | go_at_call 60 | (go_simp; go_at_call 60)
      (with_reducible refine Calls.mono (K3.out  _) ?_)
      rintro e V2 ⟨rfl, hb⟩
      try dsimp only
      try simp only [Act.put, List.setIfInBounds_toArray, List.set_cons_zero, List.set_cons_succ]
      replace bU := bU.on hb
      replace bV := bV.on hb
      replace bN := bN.on hb
      replace HW := Lib.hid (bel_end HW.out hb)
      clear hb
      refine hK.out _ _ (HSp.out _ bN bU bV) (fun _ => ?_)
      clear hK Kn
      have hS := HSp.out _ bN bU bV
      refine wpAnyH_take (i := 6) (oi := { dst := some 13, op := Go.Op.assign (Go.Operand.tmp 50), type := 2, pos := "l12_bearings.go:70", after := #[{ on := 2, ground := Go.Ground.data }, { on := 5, ground := Go.Ground.chain }, { on := 0, ground := Go.Ground.phase }, { on := 1, ground := Go.Ground.phase }, { on := 2, ground := Go.Ground.phase }, { on := 3, ground := Go.Ground.textOnly Go.Departure.lateStores }, { on := 4, ground := Go.Ground.textOnly Go.Departure.lateStores }, { on := 5, ground := Go.Ground.textOnly Go.Departure.lateStoresUnsure }], guard := none }) (v := ?_) rfl (by kernel_rfl) (by kernel_rfl) (by kernel_rfl) (fun _ _ _ h => h) (Or.inl ⟨by rfl, ?_⟩) hS ?_
      rotate_left
      · (intro w hSw; have hSw := (HSd.out w).1 hSw; go_split_ands; go_simp) <;> with_reducible rfl
      clear hS
      try simp only [Act.put, List.setIfInBounds_toArray, List.set_cons_zero, List.set_cons_succ]
      have hS := HSp.out _ bN bU bV
      refine wpAnyH_take (i := 7) (oi := { dst := some 14, op := Go.Op.assign (Go.Operand.tmp 53), type := 2, pos := "l12_bearings.go:70", after := #[{ on := 5, ground := Go.Ground.data }, { on := 6, ground := Go.Ground.chain }, { on := 0, ground := Go.Ground.phase }, { on := 1, ground := Go.Ground.phase }, { on := 2, ground := Go.Ground.phase }, { on := 3, ground := Go.Ground.phase }, { on := 4, ground := Go.Ground.phase }, { on := 5, ground := Go.Ground.phase }, { on := 6, ground := Go.Ground.phase }], guard := none }) (v := ?_) rfl (by kernel_rfl) (by kernel_rfl) (by kernel_rfl) (fun _ _ _ h => h) (Or.inl ⟨by rfl, ?_⟩) hS ?_
      rotate_left
      · (intro w hSw; have hSw := (HSd.out w).1 hSw; go_split_ands; go_simp) <;> with_reducible rfl
      clear hS
      try simp only [Act.put, List.setIfInBounds_toArray, List.set_cons_zero, List.set_cons_succ]
      refine wpAnyH_done (by kernel_rfl) ?_ _
      go_wp2_with fail
      go_meet
      exact ⟨rfl, rfl, rfl, rfl, rfl, rfl, rfl, rfl, HW.out⟩
    case rest =>
      obtain ⟨rfl, rfl, rfl, rfl, rfl, rfl, rfl, rfl, hb⟩ := hcut
      replace bP := bP.on hb
      replace bU := bU.on hb
      replace bQ := bQ.on hb
      replace bV := bV.on hb
      replace bR1 := bR1.on hb
      replace bR2 := bR2.on hb
      replace bN := bN.on hb
      replace HB := Lib.hid (bel_end HB.out hb)
      clear hb
      clear bN bQ bV
      clear nebN_bP nebN_bU nebN_bQ nebN_bV nebN_bR1 nebN_bR2
      obtain ⟨wA1, wA2, wA3, wA4, wTD, wLD, wNX, wNY⟩ := WW.out
      clear WW
      by_cases hT : TD < 0
      case pos =>
        have HT : Hid (cfT px py ux uy qx qy vx vy = (0, 0, 0, 0, 4)) := Lib.hid (HT0.out.trans (if_pos (HN0.out.2 (.inl hT))))
        have bP_0 := bP.cell 0 rfl
        have bP_1 := bP.cell 1 rfl
        have bP_l := bP.lt
        have bU_0 := bU.cell 0 rfl
        have bU_1 := bU.cell 1 rfl
        have bU_l := bU.lt
        have bR1_0 := bR1.cell 0 rfl
        have bR1_1 := bR1.cell 1 rfl
        have bR1_l := bR1.lt
        have bR2_0 := bR2.cell 0 rfl
        have bR2_1 := bR2.cell 1 rfl
        have bR2_l := bR2.lt
        go_upto_region 9 with fail
        go_cut [10] from 64 to 65 (fun s10 wx => s10 = .int .i64 4 ∧ Bk wx (w.heap.size + 1 + 1 + 1 + 1) #[.int .i64 0, .int .i64 0] 34 ∧ Bk wx (w.heap.size + 1 + 1 + 1 + 1 + 1) #[.int .i64 0, .int .i64 0] 34 ∧ Below w.heap.size w wx)
        case first =>
          have bR1_f0 := bR1.frozen 0
          have bR1_f1 := bR1.frozen 1
          have bR2_f0 := bR2.frozen 0
          have bR2_f1 := bR2.frozen 1
          go_wp2_with fail
          go_meet
          exact ⟨rfl, (((bR1.set 0 _ rfl).set 1 _ rfl).other (by omega) 0 _).other (by omega) 1 _, (((bR2.other (by omega) 0 _).other (by omega) 1 _).set 0 _ rfl).set 1 _ rfl, (by repeat (first | exact HB.out | (refine Below.setCell ?_ (by simp <;> omega) _) | (refine Below.alloc ?_ (by simp <;> omega) _) | (refine Below.drew ?_)))⟩
        case rest =>
          obtain ⟨rfl, z1, z2, hbz⟩ := hcut
          have c0 := z1.cell 0 rfl
          have c1 := z1.cell 1 rfl
          have c2 := z2.cell 0 rfl
          have c3 := z2.cell 1 rfl
          repeat (first | go_step | go_skip)
          exact bodyPost_ret (v := .tuple #[.agg #[.int .i64 0, .int .i64 0], .agg #[.int .i64 0, .int .i64 0], .int .i64 4]) (by simp [results, Try.results24, go_sem, c0, c1, c2, c3]) rfl ⟨ret5e (HT.out), hbz⟩
      case neg =>
        by_cases hL : LD < 0
        case pos =>
          have HT : Hid (cfT px py ux uy qx qy vx vy = (0, 0, 0, 0, 4)) := Lib.hid (HT0.out.trans (if_pos (HN0.out.2 (.inr hL))))
          have bP_0 := bP.cell 0 rfl
          have bP_1 := bP.cell 1 rfl
          have bP_l := bP.lt
          have bU_0 := bU.cell 0 rfl
          have bU_1 := bU.cell 1 rfl
          have bU_l := bU.lt
          have bR1_0 := bR1.cell 0 rfl
          have bR1_1 := bR1.cell 1 rfl
          have bR1_l := bR1.lt
          have bR2_0 := bR2.cell 0 rfl
          have bR2_1 := bR2.cell 1 rfl
          have bR2_l := bR2.lt
          go_upto_region 9 with fail
          go_cut [10] from 64 to 65 (fun s10 wx => s10 = .int .i64 4 ∧ Bk wx (w.heap.size + 1 + 1 + 1 + 1) #[.int .i64 0, .int .i64 0] 34 ∧ Bk wx (w.heap.size + 1 + 1 + 1 + 1 + 1) #[.int .i64 0, .int .i64 0] 34 ∧ Below w.heap.size w wx)
          case first =>
            have bR1_f0 := bR1.frozen 0
            have bR1_f1 := bR1.frozen 1
            have bR2_f0 := bR2.frozen 0
            have bR2_f1 := bR2.frozen 1
            go_wp2_with fail
            go_meet
            exact ⟨rfl, (((bR1.set 0 _ rfl).set 1 _ rfl).other (by omega) 0 _).other (by omega) 1 _, (((bR2.other (by omega) 0 _).other (by omega) 1 _).set 0 _ rfl).set 1 _ rfl, (by repeat (first | exact HB.out | (refine Below.setCell ?_ (by simp <;> omega) _) | (refine Below.alloc ?_ (by simp <;> omega) _) | (refine Below.drew ?_)))⟩
          case rest =>
            obtain ⟨rfl, z1, z2, hbz⟩ := hcut
            have c0 := z1.cell 0 rfl
            have c1 := z1.cell 1 rfl
            have c2 := z2.cell 0 rfl
            have c3 := z2.cell 1 rfl
            repeat (first | go_step | go_skip)
            exact bodyPost_ret (v := .tuple #[.agg #[.int .i64 0, .int .i64 0], .agg #[.int .i64 0, .int .i64 0], .int .i64 4]) (by simp [results, Try.results24, go_sem, c0, c1, c2, c3]) rfl ⟨ret5e (HT.out), hbz⟩
        case neg =>
          replace HT0 := Lib.hid (HT0.out.trans (if_neg (fun h => by have := HN0.out.1 h; omega)))
          clear HN0
          have bP_0 := bP.cell 0 rfl
          have bP_1 := bP.cell 1 rfl
          have bP_l := bP.lt
          have bU_0 := bU.cell 0 rfl
          have bU_1 := bU.cell 1 rfl
          have bU_l := bU.lt
          have bR1_0 := bR1.cell 0 rfl
          have bR1_1 := bR1.cell 1 rfl
          have bR1_l := bR1.lt
          have bR2_0 := bR2.cell 0 rfl
          have bR2_1 := bR2.cell 1 rfl
          have bR2_l := bR2.lt
          go_wp2_with fail
          refine (KX.out _).mono ?_
          rintro e w7 ⟨rfl, hb⟩
          replace bP := bP.on hb
          replace bU := bU.on hb
          replace bR1 := bR1.on hb
          replace bR2 := bR2.on hb
          replace HB := Lib.hid (bel_end HB.out hb)
          clear hb
          clear bP_0 bP_1 bP_l bU_0 bU_1 bU_l bR1_0 bR1_1 bR1_l bR2_0 bR2_1 bR2_l
          clear hT hL
          have bP_0 := bP.cell 0 rfl
          have bP_1 := bP.cell 1 rfl
          have bP_l := bP.lt
          have bU_0 := bU.cell 0 rfl
          have bU_1 := bU.cell 1 rfl
          have bU_l := bU.lt
          have bR1_0 := bR1.cell 0 rfl
          have bR1_1 := bR1.cell 1 rfl
          have bR1_l := bR1.lt
          have bR2_0 := bR2.cell 0 rfl
          have bR2_1 := bR2.cell 1 rfl
          have bR2_l := bR2.lt
          go_upto_region 11 with fail
          clear bP_0 bP_1 bP_l bU_0 bU_1 bU_l bR1_0 bR1_1 bR1_l bR2_0 bR2_1 bR2_l
          generalize hW : World.alloc _ _ = WbX
          obtain ⟨gX, hg⟩ : ∃ g, g = w7.heap.size := ⟨_, rfl⟩
          have bX : Bk WbX gX #[.int .i64 xn, .int .i64 xd] 34 := by rw [← hW]; exact Bk.new' hg
          have hb : Below w7.heap.size w7 WbX := by rw [← hW]; exact (Below.refl _ _).alloc (Nat.le_refl _) _
          have nebX_bP : gX ≠ w.heap.size := by have := bP.lt; omega
          have nebX_bU : gX ≠ w.heap.size + 1 := by have := bU.lt; omega
          have nebX_bR1 : gX ≠ w.heap.size + 1 + 1 + 1 + 1 := by have := bR1.lt; omega
          have nebX_bR2 : gX ≠ w.heap.size + 1 + 1 + 1 + 1 + 1 := by have := bR2.lt; omega
          try rw [← hg]
          clear hW hg
          replace bP := bP.on hb
          replace bU := bU.on hb
          replace bR1 := bR1.on hb
          replace bR2 := bR2.on hb
          replace HB := Lib.hid (bel_end HB.out hb)
          clear hb
          rcases CX.out with h0 | h0
          case inr =>
            have HT : Hid (cfT px py ux uy qx qy vx vy = (0, 0, 0, 0, 3)) := Lib.hid (HT0.out.trans (if_neg (fun h => by simp only [Prod.mk.injEq] at h0; omega)))
            simp only [Prod.mk.injEq] at h0
            obtain ⟨rfl, rfl, rfl⟩ := h0
            have bP_0 := bP.cell 0 rfl
            have bP_1 := bP.cell 1 rfl
            have bP_l := bP.lt
            have bU_0 := bU.cell 0 rfl
            have bU_1 := bU.cell 1 rfl
            have bU_l := bU.lt
            have bR1_0 := bR1.cell 0 rfl
            have bR1_1 := bR1.cell 1 rfl
            have bR1_l := bR1.lt
            have bR2_0 := bR2.cell 0 rfl
            have bR2_1 := bR2.cell 1 rfl
            have bR2_l := bR2.lt
            have bX_0 := bX.cell 0 rfl
            have bX_1 := bX.cell 1 rfl
            have bX_l := bX.lt
            go_upto_region 12 with fail
            go_cut [10] from 82 to 84 (fun s10 wx => s10 = .int .i64 3 ∧ Bk wx (w.heap.size + 1 + 1 + 1 + 1) #[.int .i64 0, .int .i64 0] 34 ∧ Bk wx (w.heap.size + 1 + 1 + 1 + 1 + 1) #[.int .i64 0, .int .i64 0] 34 ∧ Below w.heap.size w wx)
            case first =>
              have bR1_f0 := bR1.frozen 0
              have bR1_f1 := bR1.frozen 1
              have bR2_f0 := bR2.frozen 0
              have bR2_f1 := bR2.frozen 1
              go_wp2_with fail
              go_meet
              exact ⟨rfl, (((bR1.set 0 _ rfl).set 1 _ rfl).other (by omega) 0 _).other (by omega) 1 _, (((bR2.other (by omega) 0 _).other (by omega) 1 _).set 0 _ rfl).set 1 _ rfl, (by repeat (first | exact HB.out | (refine Below.setCell ?_ (by simp <;> omega) _) | (refine Below.alloc ?_ (by simp <;> omega) _) | (refine Below.drew ?_)))⟩
            case rest =>
              obtain ⟨rfl, z1, z2, hbz⟩ := hcut
              have c0 := z1.cell 0 rfl
              have c1 := z1.cell 1 rfl
              have c2 := z2.cell 0 rfl
              have c3 := z2.cell 1 rfl
              repeat (first | go_step | go_skip)
              exact bodyPost_ret (v := .tuple #[.agg #[.int .i64 0, .int .i64 0], .agg #[.int .i64 0, .int .i64 0], .int .i64 3]) (by simp [results, Try.results24, go_sem, c0, c1, c2, c3]) rfl ⟨ret5e (HT.out), hbz⟩
          case inl =>
            subst h0
            clear CX
            have bP_0 := bP.cell 0 rfl
            have bP_1 := bP.cell 1 rfl
            have bP_l := bP.lt
            have bU_0 := bU.cell 0 rfl
            have bU_1 := bU.cell 1 rfl
            have bU_l := bU.lt
            have bR1_0 := bR1.cell 0 rfl
            have bR1_1 := bR1.cell 1 rfl
            have bR1_l := bR1.lt
            have bR2_0 := bR2.cell 0 rfl
            have bR2_1 := bR2.cell 1 rfl
            have bR2_l := bR2.lt
            have bX_0 := bX.cell 0 rfl
            have bX_1 := bX.cell 1 rfl
            have bX_l := bX.lt
            go_wp2_with fail
            refine (KY.out _).mono ?_
            rintro e w8 ⟨rfl, hb⟩
            replace bP := bP.on hb
            replace bU := bU.on hb
            replace bR1 := bR1.on hb
            replace bR2 := bR2.on hb
            replace bX := bX.on hb
            replace HB := Lib.hid (bel_end HB.out hb)
            clear hb
            clear bP_0 bP_1 bP_l bU_0 bU_1 bU_l bR1_0 bR1_1 bR1_l bR2_0 bR2_1 bR2_l bX_0 bX_1 bX_l
            have bP_0 := bP.cell 0 rfl
            have bP_1 := bP.cell 1 rfl
            have bP_l := bP.lt
            have bU_0 := bU.cell 0 rfl
            have bU_1 := bU.cell 1 rfl
            have bU_l := bU.lt
            have bR1_0 := bR1.cell 0 rfl
            have bR1_1 := bR1.cell 1 rfl
            have bR1_l := bR1.lt
            have bR2_0 := bR2.cell 0 rfl
            have bR2_1 := bR2.cell 1 rfl
            have bR2_l := bR2.lt
            have bX_0 := bX.cell 0 rfl
            have bX_1 := bX.cell 1 rfl
            have bX_l := bX.lt
            go_upto_region 14 with fail
            clear bP_0 bP_1 bP_l bU_0 bU_1 bU_l bR1_0 bR1_1 bR1_l bR2_0 bR2_1 bR2_l bX_0 bX_1 bX_l
            generalize hW : World.alloc _ _ = WbY
            obtain ⟨gY, hg⟩ : ∃ g, g = w8.heap.size := ⟨_, rfl⟩
            have bY : Bk WbY gY #[.int .i64 yn, .int .i64 yd] 34 := by rw [← hW]; exact Bk.new' hg
            have hb : Below w8.heap.size w8 WbY := by rw [← hW]; exact (Below.refl _ _).alloc (Nat.le_refl _) _
            have nebY_bP : gY ≠ w.heap.size := by have := bP.lt; omega
            have nebY_bU : gY ≠ w.heap.size + 1 := by have := bU.lt; omega
            have nebY_bR1 : gY ≠ w.heap.size + 1 + 1 + 1 + 1 := by have := bR1.lt; omega
            have nebY_bR2 : gY ≠ w.heap.size + 1 + 1 + 1 + 1 + 1 := by have := bR2.lt; omega
            have nebY_bX : gY ≠ gX := by have := bX.lt; omega
            try rw [← hg]
            clear hW hg
            replace bP := bP.on hb
            replace bU := bU.on hb
            replace bR1 := bR1.on hb
            replace bR2 := bR2.on hb
            replace bX := bX.on hb
            replace HB := Lib.hid (bel_end HB.out hb)
            clear hb
            rcases CY.out with h0 | h0
            case inr =>
              have HT : Hid (cfT px py ux uy qx qy vx vy = (0, 0, 0, 0, 3)) := Lib.hid (HT0.out.trans (if_neg (fun h => by simp only [Prod.mk.injEq] at h0; omega)))
              simp only [Prod.mk.injEq] at h0
              obtain ⟨rfl, rfl, rfl⟩ := h0
              have bP_0 := bP.cell 0 rfl
              have bP_1 := bP.cell 1 rfl
              have bP_l := bP.lt
              have bU_0 := bU.cell 0 rfl
              have bU_1 := bU.cell 1 rfl
              have bU_l := bU.lt
              have bR1_0 := bR1.cell 0 rfl
              have bR1_1 := bR1.cell 1 rfl
              have bR1_l := bR1.lt
              have bR2_0 := bR2.cell 0 rfl
              have bR2_1 := bR2.cell 1 rfl
              have bR2_l := bR2.lt
              have bX_0 := bX.cell 0 rfl
              have bX_1 := bX.cell 1 rfl
              have bX_l := bX.lt
              have bY_0 := bY.cell 0 rfl
              have bY_1 := bY.cell 1 rfl
              have bY_l := bY.lt
              go_upto_region 15 with fail
              go_cut [10] from 101 to 103 (fun s10 wx => s10 = .int .i64 3 ∧ Bk wx (w.heap.size + 1 + 1 + 1 + 1) #[.int .i64 0, .int .i64 0] 34 ∧ Bk wx (w.heap.size + 1 + 1 + 1 + 1 + 1) #[.int .i64 0, .int .i64 0] 34 ∧ Below w.heap.size w wx)
              case first =>
                have bR1_f0 := bR1.frozen 0
                have bR1_f1 := bR1.frozen 1
                have bR2_f0 := bR2.frozen 0
                have bR2_f1 := bR2.frozen 1
                go_wp2_with fail
                go_meet
                exact ⟨rfl, (((bR1.set 0 _ rfl).set 1 _ rfl).other (by omega) 0 _).other (by omega) 1 _, (((bR2.other (by omega) 0 _).other (by omega) 1 _).set 0 _ rfl).set 1 _ rfl, (by repeat (first | exact HB.out | (refine Below.setCell ?_ (by simp <;> omega) _) | (refine Below.alloc ?_ (by simp <;> omega) _) | (refine Below.drew ?_)))⟩
              case rest =>
                obtain ⟨rfl, z1, z2, hbz⟩ := hcut
                have c0 := z1.cell 0 rfl
                have c1 := z1.cell 1 rfl
                have c2 := z2.cell 0 rfl
                have c3 := z2.cell 1 rfl
                repeat (first | go_step | go_skip)
                exact bodyPost_ret (v := .tuple #[.agg #[.int .i64 0, .int .i64 0], .agg #[.int .i64 0, .int .i64 0], .int .i64 3]) (by simp [results, Try.results24, go_sem, c0, c1, c2, c3]) rfl ⟨ret5e (HT.out), hbz⟩
            case inl =>
              subst h0
              clear CY
              have HT := Lib.hid (HT0.out.trans (if_pos ⟨by trivial, by trivial⟩))
              have ltX := bX.lt
              have ltY := bY.lt
              clear HT0
              clear bP bU
              have bR1_0 := bR1.cell 0 rfl
              have bR1_1 := bR1.cell 1 rfl
              have bR1_l := bR1.lt
              have bR2_0 := bR2.cell 0 rfl
              have bR2_1 := bR2.cell 1 rfl
              have bR2_l := bR2.lt
              have bX_0 := bX.cell 0 rfl
              have bX_1 := bX.cell 1 rfl
              have bX_l := bX.lt
              have bY_0 := bY.cell 0 rfl
              have bY_1 := bY.cell 1 rfl
              have bY_l := bY.lt
              go_upto_region 16 with fail
              clear bR1_0 bR1_1 bR1_l bR2_0 bR2_1 bR2_l bX_0 bX_1 bX_l bY_0 bY_1 bY_l
              obtain ⟨S, hSd⟩ : ∃ S : World → Prop, ∀ w', S w' ↔ (w'.cell? ⟨gX, 0, none⟩ = some (.int .i64 xn) ∧ w'.cell? ⟨gX, 1, none⟩ = some (.int .i64 xd) ∧ w'.cell? ⟨gY, 0, none⟩ = some (.int .i64 yn) ∧ w'.cell? ⟨gY, 1, none⟩ = some (.int .i64 yd)) := ⟨_, fun _ => Iff.rfl⟩
              have HSp : Hid (∀ w' : World, Bk w' (gX) #[.int .i64 xn, .int .i64 xd] 34 → Bk w' (gY) #[.int .i64 yn, .int .i64 yd] 34 → S w') := Lib.hid (fun w' bX bY => (hSd w').2 ⟨bX.cell 0 rfl, bX.cell 1 rfl, bY.cell 0 rfl, bY.cell 1 rfl⟩)
              have HSd := Lib.hid hSd
              clear hSd
              refine wp_region_held_drew (S := S) (by kernel_rfl) ?_ (fun hH => ?_)
              · exact (HSp.out _ bX bY : S (World.drew WbY))
              clear hH
              generalize hX : World.drew WbY = V0
              replace bR1 : Bk V0 (w.heap.size + 1 + 1 + 1 + 1) #[.int .i64 0, .int .i64 0] 34 := by rw [← hX]; exact bR1
              replace bR2 : Bk V0 (w.heap.size + 1 + 1 + 1 + 1 + 1) #[.int .i64 0, .int .i64 0] 34 := by rw [← hX]; exact bR2
              replace bX : Bk V0 (gX) #[.int .i64 xn, .int .i64 xd] 34 := by rw [← hX]; exact bX
              replace bY : Bk V0 (gY) #[.int .i64 yn, .int .i64 yd] 34 := by rw [← hX]; exact bY
              have hb : Below WbY.heap.size WbY V0 := by rw [← hX]; exact (Below.refl _ _).drew
              clear hX
              replace HB := Lib.hid (bel_end HB.out hb)
              clear hb
              have hS := HSp.out _ bX bY
              refine wpAnyH_take (i := 0) (oi := { dst := some 104, op := Go.Op.load 34 (Go.Operand.tmp 15), type := 34, pos := "l12_bearings.go:82", after := #[], guard := none }) (v := ?_) rfl (by kernel_rfl) (by kernel_rfl) (by kernel_rfl) (fun _ _ _ h => h) (Or.inl ⟨by rfl, ?_⟩) hS ?_
              rotate_left
              · (intro w hSw; have hSw := (HSd.out w).1 hSw; go_split_ands; go_simp) <;> with_reducible rfl
              clear hS
              try simp only [Act.put, List.setIfInBounds_toArray, List.set_cons_zero, List.set_cons_succ]
              have hS := HSp.out _ bX bY
              refine wpAnyH_take (i := 1) (oi := { dst := some 105, op := Go.Op.load 34 (Go.Operand.tmp 17), type := 34, pos := "l12_bearings.go:82", after := #[{ on := 2, ground := Go.Ground.gcOnly Go.Departure.lateStores }], guard := none }) (v := ?_) rfl (by kernel_rfl) (by kernel_rfl) (by kernel_rfl) (fun _ _ _ h => h) (Or.inl ⟨by rfl, ?_⟩) hS ?_
              rotate_left
              · (intro w hSw; have hSw := (HSd.out w).1 hSw; go_split_ands; go_simp) <;> with_reducible rfl
              clear hS
              try simp only [Act.put, List.setIfInBounds_toArray, List.set_cons_zero, List.set_cons_succ]
              refine wpAnyH_ready (rs := [2]) (by kernel_rfl) (by simp) ?_
              refine AllReadyH.cons (o := { dst := none, op := Go.Op.store 34 (Go.Operand.tmp 8) (Go.Operand.tmp 104), type := 0, pos := "l12_bearings.go:82", after := #[{ on := 0, ground := Go.Ground.data }, { on := 0, ground := Go.Ground.phase }, { on := 1, ground := Go.Ground.textOnly Go.Departure.lateStores }], guard := none }) rfl (fun Kn hK => ?_) AllReadyH.nil
              have bR1_0 := bR1.cell 0 rfl
              have bR1_1 := bR1.cell 1 rfl
              have bR1_f0 := bR1.frozen 0
              have bR1_f1 := bR1.frozen 1
              have bR1_l := bR1.lt
              go_simp
              clear bR1_0 bR1_f0 bR1_1 bR1_f1 bR1_l
              generalize hX : World.setCell _ _ _ = V1
              have hb : Below w.heap.size w V1 := by rw [← hX]; exact ((HB.out.setCell (p := ⟨w.heap.size + 1 + 1 + 1 + 1, 0, none⟩) (by first | omega | (dsimp only; omega)) _).setCell (p := ⟨w.heap.size + 1 + 1 + 1 + 1, 1, none⟩) (by first | omega | (dsimp only; omega)) _)
              replace bR2 : Bk V1 (w.heap.size + 1 + 1 + 1 + 1 + 1) #[.int .i64 0, .int .i64 0] 34 := by rw [← hX]; exact (Bk.other (Bk.other bR2 (by omega) 0 _) (by omega) 1 _)
              replace bX : Bk V1 (gX) #[.int .i64 xn, .int .i64 xd] 34 := by rw [← hX]; exact (Bk.other (Bk.other bX (by omega) 0 _) (by omega) 1 _)
              replace bY : Bk V1 (gY) #[.int .i64 yn, .int .i64 yd] 34 := by rw [← hX]; exact (Bk.other (Bk.other bY (by omega) 0 _) (by omega) 1 _)
              replace bR1 : Bk V1 (w.heap.size + 1 + 1 + 1 + 1) #[.int .i64 xn, .int .i64 xd] 34 := by rw [← hX]; exact (Bk.set (Bk.set bR1 0 _ rfl) 1 _ rfl)
              clear hX
              replace HB := Lib.hid hb
              clear hb
              refine hK.out _ _ (HSp.out _ bX bY) (fun _ => ?_)
              clear hK Kn
              refine wpAnyH_ready (rs := [3]) (by kernel_rfl) (by simp) ?_
              refine AllReadyH.cons (o := { dst := none, op := Go.Op.store 34 (Go.Operand.tmp 9) (Go.Operand.tmp 105), type := 0, pos := "l12_bearings.go:82", after := #[{ on := 1, ground := Go.Ground.data }, { on := 2, ground := Go.Ground.chain }, { on := 0, ground := Go.Ground.phase }, { on := 1, ground := Go.Ground.phase }, { on := 2, ground := Go.Ground.phase }], guard := none }) rfl (fun Kn hK => ?_) AllReadyH.nil
              have bR2_0 := bR2.cell 0 rfl
              have bR2_1 := bR2.cell 1 rfl
              have bR2_f0 := bR2.frozen 0
              have bR2_f1 := bR2.frozen 1
              have bR2_l := bR2.lt
              go_simp
              clear bR2_0 bR2_f0 bR2_1 bR2_f1 bR2_l
              generalize hX : World.setCell _ _ _ = V2
              have hb : Below w.heap.size w V2 := by rw [← hX]; exact ((HB.out.setCell (p := ⟨w.heap.size + 1 + 1 + 1 + 1 + 1, 0, none⟩) (by first | omega | (dsimp only; omega)) _).setCell (p := ⟨w.heap.size + 1 + 1 + 1 + 1 + 1, 1, none⟩) (by first | omega | (dsimp only; omega)) _)
              replace bR1 : Bk V2 (w.heap.size + 1 + 1 + 1 + 1) #[.int .i64 xn, .int .i64 xd] 34 := by rw [← hX]; exact (Bk.other (Bk.other bR1 (by omega) 0 _) (by omega) 1 _)
              replace bX : Bk V2 (gX) #[.int .i64 xn, .int .i64 xd] 34 := by rw [← hX]; exact (Bk.other (Bk.other bX (by omega) 0 _) (by omega) 1 _)
              replace bY : Bk V2 (gY) #[.int .i64 yn, .int .i64 yd] 34 := by rw [← hX]; exact (Bk.other (Bk.other bY (by omega) 0 _) (by omega) 1 _)
              replace bR2 : Bk V2 (w.heap.size + 1 + 1 + 1 + 1 + 1) #[.int .i64 yn, .int .i64 yd] 34 := by rw [← hX]; exact (Bk.set (Bk.set bR2 0 _ rfl) 1 _ rfl)
              clear hX
              replace HB := Lib.hid hb
              clear hb
              refine hK.out _ _ (HSp.out _ bX bY) (fun _ => ?_)
              clear hK Kn
              have hS := HSp.out _ bX bY
              refine wpAnyH_take (i := 4) (oi := { dst := some 10, op := Go.Op.assign (Go.Operand.const (Go.Value.int Go.IntKind.i64 0)), type := 2, pos := "l12_bearings.go:82", after := #[{ on := 3, ground := Go.Ground.chain }, { on := 0, ground := Go.Ground.phase }, { on := 1, ground := Go.Ground.phase }, { on := 2, ground := Go.Ground.phase }, { on := 3, ground := Go.Ground.phase }], guard := none }) (v := ?_) rfl (by kernel_rfl) (by kernel_rfl) (by kernel_rfl) (fun _ _ _ h => h) (Or.inl ⟨by rfl, ?_⟩) hS ?_
              rotate_left
              · (intro w hSw; have hSw := (HSd.out w).1 hSw; go_split_ands; go_simp) <;> with_reducible rfl
              clear hS
              try simp only [Act.put, List.setIfInBounds_toArray, List.set_cons_zero, List.set_cons_succ]
              refine wpAnyH_done (by kernel_rfl) ?_ _
              have c0 := bR1.cell 0 rfl
              have c1 := bR1.cell 1 rfl
              have c2 := bR2.cell 0 rfl
              have c3 := bR2.cell 1 rfl
              repeat (first | go_step | go_skip)
              exact bodyPost_ret (v := .tuple #[.agg #[.int .i64 xn, .int .i64 xd], .agg #[.int .i64 yn, .int .i64 yd], .int .i64 0]) (by simp [results, Try.results24, go_sem, c0, c1, c2, c3]) rfl ⟨ret5e HT.out, HB.out⟩

theorem icf_any (w : World) (px py ux uy qx qy vx vy : Int) : Calls Try.prog 24 #[.agg #[.int .i64 px, .int .i64 py], .agg #[.int .i64 ux, .int .i64 uy], .agg #[.int .i64 qx, .int .i64 qy], .agg #[.int .i64 vx, .int .i64 vy]] w fun e w' => e = .returned (.tuple #[.agg #[.int .i64 (cfT px py ux uy qx qy vx vy).1, .int .i64 (cfT px py ux uy qx qy vx vy).2.1], .agg #[.int .i64 (cfT px py ux uy qx qy vx vy).2.2.1, .int .i64 (cfT px py ux uy qx qy vx vy).2.2.2.1], .int .i64 (cfT px py ux uy qx qy vx vy).2.2.2.2]) ∧ Below w.heap.size w w' := by
  cases hok : cfB px py ux uy qx qy vx vy
  · exact icf_no w px py ux uy qx qy vx vy hok
  · exact icf_ok w px py ux uy qx qy vx vy hok

set_option maxRecDepth 100000 in
set_option maxHeartbeats 8000000 in
theorem scf_no (w : World) (px py ux uy qx qy vx vy : Int) (hok : cfB px py ux uy qx qy vx vy = false) :
    Calls Try.prog 23 #[.agg #[.int .i64 px, .int .i64 py], .agg #[.int .i64 ux, .int .i64 uy], .agg #[.int .i64 qx, .int .i64 qy], .agg #[.int .i64 vx, .int .i64 vy]] w fun e w' => e = .returned (.tuple #[.agg #[.int .i64 (cfT px py ux uy qx qy vx vy).1, .int .i64 (cfT px py ux uy qx qy vx vy).2.1], .agg #[.int .i64 (cfT px py ux uy qx qy vx vy).2.2.1, .int .i64 (cfT px py ux uy qx qy vx vy).2.2.2.1], .int .i64 (cfT px py ux uy qx qy vx vy).2.2.2.2]) ∧ Below w.heap.size w w' := by
  have HT : Hid (cfT px py ux uy qx qy vx vy = (0, 0, 0, 0, 1)) := Lib.hid (by unfold cfT; rw [hok]; rfl)
  obtain ⟨P, hP⟩ : ∃ q, ptB 100000 px py = q := ⟨_, rfl⟩
  obtain ⟨U, hU⟩ : ∃ q, brB ux uy = q := ⟨_, rfl⟩
  obtain ⟨R, hR⟩ : ∃ q, ptB 100000 qx qy = q := ⟨_, rfl⟩
  obtain ⟨E, hE⟩ : ∃ q, brB vx vy = q := ⟨_, rfl⟩
  unfold cfB at hok
  rw [hP, hU, hR, hE] at hok
  have HO := Lib.hid hok
  have KP : Hid (∀ W : World, Calls Try.prog 47 #[.agg #[.int .i64 px, .int .i64 py], .int .i64 100000] W fun e w' => e = .returned (.bool P) ∧ Below W.heap.size W w') := Lib.hid (fun W => by have := lpt_any W 100000 px py (by omega) (by omega); rwa [hP] at this)
  have KU : Hid (∀ W : World, Calls Try.prog 16 #[.agg #[.int .i64 ux, .int .i64 uy]] W fun e w' => e = .returned (.bool U) ∧ Below W.heap.size W w') := Lib.hid (fun W => by have := sbg_any W ux uy; rwa [hU] at this)
  have KR : Hid (∀ W : World, Calls Try.prog 47 #[.agg #[.int .i64 qx, .int .i64 qy], .int .i64 100000] W fun e w' => e = .returned (.bool R) ∧ Below W.heap.size W w') := Lib.hid (fun W => by have := lpt_any W 100000 qx qy (by omega) (by omega); rwa [hR] at this)
  have KE : Hid (∀ W : World, Calls Try.prog 16 #[.agg #[.int .i64 vx, .int .i64 vy]] W fun e w' => e = .returned (.bool E) ∧ Below W.heap.size W w') := Lib.hid (fun W => by have := sbg_any W vx vy; rwa [hE] at this)
  clear hP hU hR hE hok
  go_enter Try.func23, Try.ntmps23
  go_wp2_with fail
  generalize hW : World.alloc _ _ = W
  have bP : Bk W (w.heap.size) #[.int .i64 px, .int .i64 py] 25 := by rw [← hW]; repeat (first | (refine Bk.new' ?_; (simp; done)) | refine Bk.alloc ?_ _)
  have bU : Bk W (w.heap.size + 1) #[.int .i64 ux, .int .i64 uy] 25 := by rw [← hW]; repeat (first | (refine Bk.new' ?_; (simp; done)) | refine Bk.alloc ?_ _)
  have bQ : Bk W (w.heap.size + 1 + 1) #[.int .i64 qx, .int .i64 qy] 25 := by rw [← hW]; repeat (first | (refine Bk.new' ?_; (simp; done)) | refine Bk.alloc ?_ _)
  have bV : Bk W (w.heap.size + 1 + 1 + 1) #[.int .i64 vx, .int .i64 vy] 25 := by rw [← hW]; repeat (first | (refine Bk.new' ?_; (simp; done)) | refine Bk.alloc ?_ _)
  have bR1 : Bk W (w.heap.size + 1 + 1 + 1 + 1) #[.int .i64 0, .int .i64 0] 34 := by rw [← hW]; repeat (first | (refine Bk.new' ?_; (simp; done)) | refine Bk.alloc ?_ _)
  have bR2 : Bk W (w.heap.size + 1 + 1 + 1 + 1 + 1) #[.int .i64 0, .int .i64 0] 34 := by rw [← hW]; repeat (first | (refine Bk.new' ?_; (simp; done)) | refine Bk.alloc ?_ _)
  have HB : Hid (Below w.heap.size w W) := Lib.hid (by rw [← hW]; exact (by repeat (first | exact Below.refl _ _ | (refine Below.alloc ?_ (by simp <;> omega) _) | (refine Below.setCell ?_ (by simp <;> omega) _) | (refine Below.drew ?_) | (refine bel_drewN ?_ _))))
  clear hW
  refine (KP.out _).mono ?_
  rintro e w1 ⟨rfl, hb⟩
  replace bP := bP.on hb
  replace bU := bU.on hb
  replace bQ := bQ.on hb
  replace bV := bV.on hb
  replace bR1 := bR1.on hb
  replace bR2 := bR2.on hb
  replace HB := Lib.hid (bel_end HB.out hb)
  clear hb
  cases hP : P
  case false =>
    subst hP
    have bP_0 := bP.cell 0 rfl
    have bP_1 := bP.cell 1 rfl
    have bP_l := bP.lt
    have bU_0 := bU.cell 0 rfl
    have bU_1 := bU.cell 1 rfl
    have bU_l := bU.lt
    have bQ_0 := bQ.cell 0 rfl
    have bQ_1 := bQ.cell 1 rfl
    have bQ_l := bQ.lt
    have bV_0 := bV.cell 0 rfl
    have bV_1 := bV.cell 1 rfl
    have bV_l := bV.lt
    have bR1_0 := bR1.cell 0 rfl
    have bR1_1 := bR1.cell 1 rfl
    have bR1_l := bR1.lt
    have bR2_0 := bR2.cell 0 rfl
    have bR2_1 := bR2.cell 1 rfl
    have bR2_l := bR2.lt
    have bR1_f0 := bR1.frozen 0
    have bR1_f1 := bR1.frozen 1
    have bR2_f0 := bR2.frozen 0
    have bR2_f1 := bR2.frozen 1
    go_wp2
    exact bodyPost_ret (v := .tuple #[.agg #[.int .i64 0, .int .i64 0], .agg #[.int .i64 0, .int .i64 0], .int .i64 1]) (by simp [results, Try.results23, go_sem, bR1_0, bR1_f0, bR1_1, bR1_f1, bR1_l, bR2_0, bR2_f0, bR2_1, bR2_f1, bR2_l]) rfl ⟨ret5e (HT.out), (by repeat (first | exact HB.out | (refine Below.setCell ?_ (by simp <;> omega) _) | (refine Below.alloc ?_ (by simp <;> omega) _) | (refine Below.drew ?_)))⟩
  case true =>
    subst hP
    have bP_0 := bP.cell 0 rfl
    have bP_1 := bP.cell 1 rfl
    have bP_l := bP.lt
    have bU_0 := bU.cell 0 rfl
    have bU_1 := bU.cell 1 rfl
    have bU_l := bU.lt
    have bQ_0 := bQ.cell 0 rfl
    have bQ_1 := bQ.cell 1 rfl
    have bQ_l := bQ.lt
    have bV_0 := bV.cell 0 rfl
    have bV_1 := bV.cell 1 rfl
    have bV_l := bV.lt
    have bR1_0 := bR1.cell 0 rfl
    have bR1_1 := bR1.cell 1 rfl
    have bR1_l := bR1.lt
    have bR2_0 := bR2.cell 0 rfl
    have bR2_1 := bR2.cell 1 rfl
    have bR2_l := bR2.lt
    go_wp2_with fail
    refine (KU.out _).mono ?_
    rintro e w2 ⟨rfl, hb⟩
    replace bP := bP.on hb
    replace bU := bU.on hb
    replace bQ := bQ.on hb
    replace bV := bV.on hb
    replace bR1 := bR1.on hb
    replace bR2 := bR2.on hb
    replace HB := Lib.hid (bel_end HB.out hb)
    clear hb
    clear bP_0 bP_1 bP_l bU_0 bU_1 bU_l bQ_0 bQ_1 bQ_l bV_0 bV_1 bV_l bR1_0 bR1_1 bR1_l bR2_0 bR2_1 bR2_l
    cases hP : U
    case false =>
      subst hP
      have bP_0 := bP.cell 0 rfl
      have bP_1 := bP.cell 1 rfl
      have bP_l := bP.lt
      have bU_0 := bU.cell 0 rfl
      have bU_1 := bU.cell 1 rfl
      have bU_l := bU.lt
      have bQ_0 := bQ.cell 0 rfl
      have bQ_1 := bQ.cell 1 rfl
      have bQ_l := bQ.lt
      have bV_0 := bV.cell 0 rfl
      have bV_1 := bV.cell 1 rfl
      have bV_l := bV.lt
      have bR1_0 := bR1.cell 0 rfl
      have bR1_1 := bR1.cell 1 rfl
      have bR1_l := bR1.lt
      have bR2_0 := bR2.cell 0 rfl
      have bR2_1 := bR2.cell 1 rfl
      have bR2_l := bR2.lt
      have bR1_f0 := bR1.frozen 0
      have bR1_f1 := bR1.frozen 1
      have bR2_f0 := bR2.frozen 0
      have bR2_f1 := bR2.frozen 1
      go_wp2
      exact bodyPost_ret (v := .tuple #[.agg #[.int .i64 0, .int .i64 0], .agg #[.int .i64 0, .int .i64 0], .int .i64 1]) (by simp [results, Try.results23, go_sem, bR1_0, bR1_f0, bR1_1, bR1_f1, bR1_l, bR2_0, bR2_f0, bR2_1, bR2_f1, bR2_l]) rfl ⟨ret5e (HT.out), (by repeat (first | exact HB.out | (refine Below.setCell ?_ (by simp <;> omega) _) | (refine Below.alloc ?_ (by simp <;> omega) _) | (refine Below.drew ?_)))⟩
    case true =>
      subst hP
      have bP_0 := bP.cell 0 rfl
      have bP_1 := bP.cell 1 rfl
      have bP_l := bP.lt
      have bU_0 := bU.cell 0 rfl
      have bU_1 := bU.cell 1 rfl
      have bU_l := bU.lt
      have bQ_0 := bQ.cell 0 rfl
      have bQ_1 := bQ.cell 1 rfl
      have bQ_l := bQ.lt
      have bV_0 := bV.cell 0 rfl
      have bV_1 := bV.cell 1 rfl
      have bV_l := bV.lt
      have bR1_0 := bR1.cell 0 rfl
      have bR1_1 := bR1.cell 1 rfl
      have bR1_l := bR1.lt
      have bR2_0 := bR2.cell 0 rfl
      have bR2_1 := bR2.cell 1 rfl
      have bR2_l := bR2.lt
      go_wp2_with fail
      refine (KR.out _).mono ?_
      rintro e w3 ⟨rfl, hb⟩
      replace bP := bP.on hb
      replace bU := bU.on hb
      replace bQ := bQ.on hb
      replace bV := bV.on hb
      replace bR1 := bR1.on hb
      replace bR2 := bR2.on hb
      replace HB := Lib.hid (bel_end HB.out hb)
      clear hb
      clear bP_0 bP_1 bP_l bU_0 bU_1 bU_l bQ_0 bQ_1 bQ_l bV_0 bV_1 bV_l bR1_0 bR1_1 bR1_l bR2_0 bR2_1 bR2_l
      cases hP : R
      case false =>
        subst hP
        have bP_0 := bP.cell 0 rfl
        have bP_1 := bP.cell 1 rfl
        have bP_l := bP.lt
        have bU_0 := bU.cell 0 rfl
        have bU_1 := bU.cell 1 rfl
        have bU_l := bU.lt
        have bQ_0 := bQ.cell 0 rfl
        have bQ_1 := bQ.cell 1 rfl
        have bQ_l := bQ.lt
        have bV_0 := bV.cell 0 rfl
        have bV_1 := bV.cell 1 rfl
        have bV_l := bV.lt
        have bR1_0 := bR1.cell 0 rfl
        have bR1_1 := bR1.cell 1 rfl
        have bR1_l := bR1.lt
        have bR2_0 := bR2.cell 0 rfl
        have bR2_1 := bR2.cell 1 rfl
        have bR2_l := bR2.lt
        have bR1_f0 := bR1.frozen 0
        have bR1_f1 := bR1.frozen 1
        have bR2_f0 := bR2.frozen 0
        have bR2_f1 := bR2.frozen 1
        go_wp2
        exact bodyPost_ret (v := .tuple #[.agg #[.int .i64 0, .int .i64 0], .agg #[.int .i64 0, .int .i64 0], .int .i64 1]) (by simp [results, Try.results23, go_sem, bR1_0, bR1_f0, bR1_1, bR1_f1, bR1_l, bR2_0, bR2_f0, bR2_1, bR2_f1, bR2_l]) rfl ⟨ret5e (HT.out), (by repeat (first | exact HB.out | (refine Below.setCell ?_ (by simp <;> omega) _) | (refine Below.alloc ?_ (by simp <;> omega) _) | (refine Below.drew ?_)))⟩
      case true =>
        subst hP
        obtain rfl : E = false := HO.out
        have bP_0 := bP.cell 0 rfl
        have bP_1 := bP.cell 1 rfl
        have bP_l := bP.lt
        have bU_0 := bU.cell 0 rfl
        have bU_1 := bU.cell 1 rfl
        have bU_l := bU.lt
        have bQ_0 := bQ.cell 0 rfl
        have bQ_1 := bQ.cell 1 rfl
        have bQ_l := bQ.lt
        have bV_0 := bV.cell 0 rfl
        have bV_1 := bV.cell 1 rfl
        have bV_l := bV.lt
        have bR1_0 := bR1.cell 0 rfl
        have bR1_1 := bR1.cell 1 rfl
        have bR1_l := bR1.lt
        have bR2_0 := bR2.cell 0 rfl
        have bR2_1 := bR2.cell 1 rfl
        have bR2_l := bR2.lt
        go_wp2_with fail
        refine (KE.out _).mono ?_
        rintro e w4 ⟨rfl, hb⟩
        replace bP := bP.on hb
        replace bU := bU.on hb
        replace bQ := bQ.on hb
        replace bV := bV.on hb
        replace bR1 := bR1.on hb
        replace bR2 := bR2.on hb
        replace HB := Lib.hid (bel_end HB.out hb)
        clear hb
        clear bP_0 bP_1 bP_l bU_0 bU_1 bU_l bQ_0 bQ_1 bQ_l bV_0 bV_1 bV_l bR1_0 bR1_1 bR1_l bR2_0 bR2_1 bR2_l
        have bP_0 := bP.cell 0 rfl
        have bP_1 := bP.cell 1 rfl
        have bP_l := bP.lt
        have bU_0 := bU.cell 0 rfl
        have bU_1 := bU.cell 1 rfl
        have bU_l := bU.lt
        have bQ_0 := bQ.cell 0 rfl
        have bQ_1 := bQ.cell 1 rfl
        have bQ_l := bQ.lt
        have bV_0 := bV.cell 0 rfl
        have bV_1 := bV.cell 1 rfl
        have bV_l := bV.lt
        have bR1_0 := bR1.cell 0 rfl
        have bR1_1 := bR1.cell 1 rfl
        have bR1_l := bR1.lt
        have bR2_0 := bR2.cell 0 rfl
        have bR2_1 := bR2.cell 1 rfl
        have bR2_l := bR2.lt
        have bR1_f0 := bR1.frozen 0
        have bR1_f1 := bR1.frozen 1
        have bR2_f0 := bR2.frozen 0
        have bR2_f1 := bR2.frozen 1
        go_wp2
        exact bodyPost_ret (v := .tuple #[.agg #[.int .i64 0, .int .i64 0], .agg #[.int .i64 0, .int .i64 0], .int .i64 1]) (by simp [results, Try.results23, go_sem, bR1_0, bR1_f0, bR1_1, bR1_f1, bR1_l, bR2_0, bR2_f0, bR2_1, bR2_f1, bR2_l]) rfl ⟨ret5e (HT.out), (by repeat (first | exact HB.out | (refine Below.setCell ?_ (by simp <;> omega) _) | (refine Below.alloc ?_ (by simp <;> omega) _) | (refine Below.drew ?_)))⟩

set_option maxRecDepth 100000 in
set_option maxHeartbeats 8000000 in
theorem scf_ok (w : World) (px py ux uy qx qy vx vy : Int) (hok : cfB px py ux uy qx qy vx vy = true) :
    Calls Try.prog 23 #[.agg #[.int .i64 px, .int .i64 py], .agg #[.int .i64 ux, .int .i64 uy], .agg #[.int .i64 qx, .int .i64 qy], .agg #[.int .i64 vx, .int .i64 vy]] w fun e w' => e = .returned (.tuple #[.agg #[.int .i64 (cfT px py ux uy qx qy vx vy).1, .int .i64 (cfT px py ux uy qx qy vx vy).2.1], .agg #[.int .i64 (cfT px py ux uy qx qy vx vy).2.2.1, .int .i64 (cfT px py ux uy qx qy vx vy).2.2.2.1], .int .i64 (cfT px py ux uy qx qy vx vy).2.2.2.2]) ∧ Below w.heap.size w w' := by
  have hk := hok
  unfold cfB at hk
  rw [Bool.and_eq_true, Bool.and_eq_true, Bool.and_eq_true] at hk
  obtain ⟨⟨⟨hP, hU⟩, hR⟩, hE⟩ := hk
  have KP : Hid (∀ W : World, Calls Try.prog 47 #[.agg #[.int .i64 px, .int .i64 py], .int .i64 100000] W fun e w' => e = .returned (.bool true) ∧ Below W.heap.size W w') := Lib.hid (fun W => by have := lpt_any W 100000 px py (by omega) (by omega); rwa [hP] at this)
  have KU : Hid (∀ W : World, Calls Try.prog 16 #[.agg #[.int .i64 ux, .int .i64 uy]] W fun e w' => e = .returned (.bool true) ∧ Below W.heap.size W w') := Lib.hid (fun W => by have := sbg_any W ux uy; rwa [hU] at this)
  have KR : Hid (∀ W : World, Calls Try.prog 47 #[.agg #[.int .i64 qx, .int .i64 qy], .int .i64 100000] W fun e w' => e = .returned (.bool true) ∧ Below W.heap.size W w') := Lib.hid (fun W => by have := lpt_any W 100000 qx qy (by omega) (by omega); rwa [hR] at this)
  have KE : Hid (∀ W : World, Calls Try.prog 16 #[.agg #[.int .i64 vx, .int .i64 vy]] W fun e w' => e = .returned (.bool true) ∧ Below W.heap.size W w') := Lib.hid (fun W => by have := sbg_any W vx vy; rwa [hE] at this)
  have p := ptB_t hP
  have r := ptB_t hR
  have u := (brB_t hU).1
  have v := (brB_t hE).1
  have HT0 : cfT px py ux uy qx qy vx vy = if crs ux uy vx vy = 0 then (0, 0, 0, 0, 5) else if cfN px py ux uy qx qy vx vy then (0, 0, 0, 0, 4) else if (cfX px py ux uy qx qy vx vy).2.2 = 0 ∧ (cfY px py ux uy qx qy vx vy).2.2 = 0 then ((cfX px py ux uy qx qy vx vy).1, (cfX px py ux uy qx qy vx vy).2.1, (cfY px py ux uy qx qy vx vy).1, (cfY px py ux uy qx qy vx vy).2.1, 0) else (0, 0, 0, 0, 3) := by unfold cfT; rw [hok]; rfl
  have HN0 : cfN px py ux uy qx qy vx vy ↔ (crs (qx - px) (qy - py) vx vy * crs ux uy vx vy < 0 ∨ crs (qx - px) (qy - py) ux uy * crs ux uy vx vy < 0) := Iff.rfl
  have HX0 : cfX px py ux uy qx qy vx vy = rlT (px * crs ux uy vx vy + ux * crs (qx - px) (qy - py) vx vy) (crs ux uy vx vy) := rfl
  have HY0 : cfY px py ux uy qx qy vx vy = rlT (py * crs ux uy vx vy + uy * crs (qx - px) (qy - py) vx vy) (crs ux uy vx vy) := rfl
  clear hok hP hU hR hE
  have KM : Hid (∀ W : World, Calls Try.prog 51 #[.agg #[.int .i64 qx, .int .i64 qy], .agg #[.int .i64 px, .int .i64 py]] W fun e w' => e = .returned (.agg #[.int .i64 (qx - px), .int .i64 (qy - py)]) ∧ Below W.heap.size W w') := Lib.hid (fun W => lle_any W qx qy px py (by omega) (by omega) (by omega) (by omega) (by omega) (by omega) (by omega) (by omega))
  obtain ⟨X, hX⟩ : ∃ q, qx - px = q := ⟨_, rfl⟩
  obtain ⟨Y, hY⟩ : ∃ q, qy - py = q := ⟨_, rfl⟩
  have x1 : -200000 ≤ X ∧ X ≤ 200000 := by omega
  have y1 : -200000 ≤ Y ∧ Y ≤ 200000 := by omega
  rw [hX, hY] at KM HN0 HX0 HY0
  clear hX hY
  have c1 := mul_abs (a := ux) (n := vy) (A := 1000) (N := 1000) (by omega) (by omega)
  have c2 := mul_abs (a := uy) (n := vx) (A := 1000) (N := 1000) (by omega) (by omega)
  have c3 := mul_abs (a := X) (n := vy) (A := 200000) (N := 1000) (by omega) (by omega)
  have c4 := mul_abs (a := Y) (n := vx) (A := 200000) (N := 1000) (by omega) (by omega)
  have c5 := mul_abs (a := X) (n := uy) (A := 200000) (N := 1000) (by omega) (by omega)
  have c6 := mul_abs (a := Y) (n := ux) (A := 200000) (N := 1000) (by omega) (by omega)
  have K1 : Hid (∀ W : World, Calls Try.prog 50 #[.agg #[.int .i64 ux, .int .i64 uy], .agg #[.int .i64 vx, .int .i64 vy]] W fun e w' => e = .returned (.int .i64 (crs ux uy vx vy)) ∧ Below W.heap.size W w') := Lib.hid (fun W => lcr_any W ux uy vx vy (by omega) (by omega) (by omega) (by omega))
  have K2 : Hid (∀ W : World, Calls Try.prog 50 #[.agg #[.int .i64 X, .int .i64 Y], .agg #[.int .i64 vx, .int .i64 vy]] W fun e w' => e = .returned (.int .i64 (crs X Y vx vy)) ∧ Below W.heap.size W w') := Lib.hid (fun W => lcr_any W X Y vx vy (by omega) (by omega) (by omega) (by omega))
  have K3 : Hid (∀ W : World, Calls Try.prog 50 #[.agg #[.int .i64 X, .int .i64 Y], .agg #[.int .i64 ux, .int .i64 uy]] W fun e w' => e = .returned (.int .i64 (crs X Y ux uy)) ∧ Below W.heap.size W w') := Lib.hid (fun W => lcr_any W X Y ux uy (by omega) (by omega) (by omega) (by omega))
  have bD : -2000000 ≤ crs ux uy vx vy ∧ crs ux uy vx vy ≤ 2000000 := by unfold crs; omega
  have bT : -400000000 ≤ crs X Y vx vy ∧ crs X Y vx vy ≤ 400000000 := by unfold crs; omega
  have bL : -400000000 ≤ crs X Y ux uy ∧ crs X Y ux uy ≤ 400000000 := by unfold crs; omega
  clear c1 c2 c3 c4 c5 c6 x1 y1
  obtain ⟨D, hD⟩ : ∃ q, crs ux uy vx vy = q := ⟨_, rfl⟩
  obtain ⟨T, hT⟩ : ∃ q, crs X Y vx vy = q := ⟨_, rfl⟩
  obtain ⟨L, hL⟩ : ∃ q, crs X Y ux uy = q := ⟨_, rfl⟩
  rw [hD] at K1 HT0 HN0 HX0 HY0 bD
  rw [hT] at K2 HN0 HX0 HY0 bT
  rw [hL] at K3 HN0 bL
  clear hD hT hL
  have d1 := mul_abs (a := T) (n := D) (A := 400000000) (N := 2000000) (by omega) (by omega)
  have d2 := mul_abs (a := L) (n := D) (A := 400000000) (N := 2000000) (by omega) (by omega)
  have d3 := mul_abs (a := px) (n := D) (A := 100000) (N := 2000000) (by omega) (by omega)
  have d4 := mul_abs (a := ux) (n := T) (A := 1000) (N := 400000000) (by omega) (by omega)
  have d5 := mul_abs (a := py) (n := D) (A := 100000) (N := 2000000) (by omega) (by omega)
  have d6 := mul_abs (a := uy) (n := T) (A := 1000) (N := 400000000) (by omega) (by omega)
  rw [← sg1_mul_neg, ← sg1_mul_neg (a := L)] at HN0
  have KSD : Hid (∀ W : World, Calls Try.prog 49 #[.int .i64 D] W fun e w' => e = .returned (.int .i64 (sg1 D)) ∧ Below W.heap.size W w') := Lib.hid (fun W => lsg_any W D)
  have KST : Hid (∀ W : World, Calls Try.prog 49 #[.int .i64 T] W fun e w' => e = .returned (.int .i64 (sg1 T)) ∧ Below W.heap.size W w') := Lib.hid (fun W => lsg_any W T)
  have KSL : Hid (∀ W : World, Calls Try.prog 49 #[.int .i64 L] W fun e w' => e = .returned (.int .i64 (sg1 L)) ∧ Below W.heap.size W w') := Lib.hid (fun W => lsg_any W L)
  have s1 := sg1_bd D
  have s2 := sg1_bd T
  have s3 := sg1_bd L
  obtain ⟨sD, hsD⟩ : ∃ q, sg1 D = q := ⟨_, rfl⟩
  obtain ⟨sT, hsT⟩ : ∃ q, sg1 T = q := ⟨_, rfl⟩
  obtain ⟨sL, hsL⟩ : ∃ q, sg1 L = q := ⟨_, rfl⟩
  rw [hsD, hsT, hsL] at HN0
  rw [hsD] at KSD s1
  rw [hsT] at KST s2
  rw [hsL] at KSL s3
  clear hsD hsT hsL
  have d7 := mul_abs (a := sT) (n := sD) (A := 1) (N := 1) (by omega) (by omega)
  have d8 := mul_abs (a := sL) (n := sD) (A := 1) (N := 1) (by omega) (by omega)
  obtain ⟨A1, hA1⟩ : ∃ q, px * D = q := ⟨_, rfl⟩
  obtain ⟨A2, hA2⟩ : ∃ q, ux * T = q := ⟨_, rfl⟩
  obtain ⟨A3, hA3⟩ : ∃ q, py * D = q := ⟨_, rfl⟩
  obtain ⟨A4, hA4⟩ : ∃ q, uy * T = q := ⟨_, rfl⟩
  obtain ⟨TD, hTD⟩ : ∃ q, sT * sD = q := ⟨_, rfl⟩
  obtain ⟨LD, hLD⟩ : ∃ q, sL * sD = q := ⟨_, rfl⟩
  rw [hA1] at d3 HX0
  rw [hA2] at d4 HX0
  rw [hA3] at d5 HY0
  rw [hA4] at d6 HY0
  rw [hTD] at HN0 d7
  rw [hLD] at HN0 d8
  have wA1 : IntKind.wrap .i64 (px * D) = A1 := by rw [hA1]; exact IntWalk.i64_in _ (by omega)
  have wA2 : IntKind.wrap .i64 (T * ux) = A2 := by rw [Int.mul_comm, hA2]; exact IntWalk.i64_in _ (by omega)
  have wA3 : IntKind.wrap .i64 (py * D) = A3 := by rw [hA3]; exact IntWalk.i64_in _ (by omega)
  have wA4 : IntKind.wrap .i64 (T * uy) = A4 := by rw [Int.mul_comm, hA4]; exact IntWalk.i64_in _ (by omega)
  have wTD : IntKind.wrap .i64 (sT * sD) = TD := by rw [hTD]; exact IntWalk.i64_in _ (by omega)
  have wLD : IntKind.wrap .i64 (sL * sD) = LD := by rw [hLD]; exact IntWalk.i64_in _ (by omega)
  obtain ⟨NX, hNX⟩ : ∃ q, A1 + A2 = q := ⟨_, rfl⟩
  obtain ⟨NY, hNY⟩ : ∃ q, A3 + A4 = q := ⟨_, rfl⟩
  have wNX : IntKind.wrap .i64 (A1 + A2) = NX := by rw [hNX]; exact IntWalk.i64_in _ (by omega)
  have wNY : IntKind.wrap .i64 (A3 + A4) = NY := by rw [hNY]; exact IntWalk.i64_in _ (by omega)
  rw [hNX] at HX0
  rw [hNY] at HY0
  have n1 : -1000000000000 ≤ NX ∧ NX ≤ 1000000000000 := by omega
  have n2 : -1000000000000 ≤ NY ∧ NY ≤ 1000000000000 := by omega
  obtain ⟨⟨xn, xd, xe⟩, hx⟩ : ∃ q, rlT NX D = q := ⟨_, rfl⟩
  obtain ⟨⟨yn, yd, ye⟩, hy⟩ : ∃ q, rlT NY D = q := ⟨_, rfl⟩
  have cx := rlT_code NX D
  have cy := rlT_code NY D
  rw [hx] at HX0 cx
  rw [hy] at HY0 cy
  have KX : Hid (¬ D = 0 → ∀ W : World, Calls Try.prog 59 #[.int .i64 NX, .int .i64 D] W fun e' w' => e' = .returned (.tuple #[.agg #[.int .i64 xn, .int .i64 xd], .int .i64 xe]) ∧ Below W.heap.size W w') := Lib.hid (fun h W => lrl_is hx (by omega) (by omega) (by omega) (by omega) h W)
  have KY : Hid (¬ D = 0 → ∀ W : World, Calls Try.prog 59 #[.int .i64 NY, .int .i64 D] W fun e' w' => e' = .returned (.tuple #[.agg #[.int .i64 yn, .int .i64 yd], .int .i64 ye]) ∧ Below W.heap.size W w') := Lib.hid (fun h W => lrl_is hy (by omega) (by omega) (by omega) (by omega) h W)
  rw [HX0, HY0] at HT0
  dsimp only at HT0 cx cy
  replace HT0 := Lib.hid HT0
  replace HN0 := Lib.hid HN0
  have CX := Lib.hid cx
  have CY := Lib.hid cy
  have WW := Lib.hid (And.intro wA1 (And.intro wA2 (And.intro wA3 (And.intro wA4 (And.intro wTD (And.intro wLD (And.intro wNX wNY)))))))
  clear wA1 wA2 wA3 wA4 wTD wLD wNX wNY cx cy hx hy HX0 HY0 n1 n2 hNX hNY hA1 hA2 hA3 hA4 hTD hLD d1 d2 d3 d4 d5 d6 bD bT bL p r u v d7 d8 s1 s2 s3
  go_enter Try.func23, Try.ntmps23
  go_wp2_with fail
  generalize hW : World.alloc _ _ = W
  have bP : Bk W (w.heap.size) #[.int .i64 px, .int .i64 py] 25 := by rw [← hW]; repeat (first | (refine Bk.new' ?_; (simp; done)) | refine Bk.alloc ?_ _)
  have bU : Bk W (w.heap.size + 1) #[.int .i64 ux, .int .i64 uy] 25 := by rw [← hW]; repeat (first | (refine Bk.new' ?_; (simp; done)) | refine Bk.alloc ?_ _)
  have bQ : Bk W (w.heap.size + 1 + 1) #[.int .i64 qx, .int .i64 qy] 25 := by rw [← hW]; repeat (first | (refine Bk.new' ?_; (simp; done)) | refine Bk.alloc ?_ _)
  have bV : Bk W (w.heap.size + 1 + 1 + 1) #[.int .i64 vx, .int .i64 vy] 25 := by rw [← hW]; repeat (first | (refine Bk.new' ?_; (simp; done)) | refine Bk.alloc ?_ _)
  have bR1 : Bk W (w.heap.size + 1 + 1 + 1 + 1) #[.int .i64 0, .int .i64 0] 34 := by rw [← hW]; repeat (first | (refine Bk.new' ?_; (simp; done)) | refine Bk.alloc ?_ _)
  have bR2 : Bk W (w.heap.size + 1 + 1 + 1 + 1 + 1) #[.int .i64 0, .int .i64 0] 34 := by rw [← hW]; repeat (first | (refine Bk.new' ?_; (simp; done)) | refine Bk.alloc ?_ _)
  have HB : Hid (Below w.heap.size w W) := Lib.hid (by rw [← hW]; exact (by repeat (first | exact Below.refl _ _ | (refine Below.alloc ?_ (by simp <;> omega) _) | (refine Below.setCell ?_ (by simp <;> omega) _) | (refine Below.drew ?_) | (refine bel_drewN ?_ _))))
  clear hW
  refine (KP.out _).mono ?_
  rintro e w1 ⟨rfl, hb⟩
  replace bP := bP.on hb
  replace bU := bU.on hb
  replace bQ := bQ.on hb
  replace bV := bV.on hb
  replace bR1 := bR1.on hb
  replace bR2 := bR2.on hb
  replace HB := Lib.hid (bel_end HB.out hb)
  clear hb
  have bP_0 := bP.cell 0 rfl
  have bP_1 := bP.cell 1 rfl
  have bP_l := bP.lt
  have bU_0 := bU.cell 0 rfl
  have bU_1 := bU.cell 1 rfl
  have bU_l := bU.lt
  have bQ_0 := bQ.cell 0 rfl
  have bQ_1 := bQ.cell 1 rfl
  have bQ_l := bQ.lt
  have bV_0 := bV.cell 0 rfl
  have bV_1 := bV.cell 1 rfl
  have bV_l := bV.lt
  have bR1_0 := bR1.cell 0 rfl
  have bR1_1 := bR1.cell 1 rfl
  have bR1_l := bR1.lt
  have bR2_0 := bR2.cell 0 rfl
  have bR2_1 := bR2.cell 1 rfl
  have bR2_l := bR2.lt
  go_wp2_with fail
  refine (KU.out _).mono ?_
  rintro e w2 ⟨rfl, hb⟩
  replace bP := bP.on hb
  replace bU := bU.on hb
  replace bQ := bQ.on hb
  replace bV := bV.on hb
  replace bR1 := bR1.on hb
  replace bR2 := bR2.on hb
  replace HB := Lib.hid (bel_end HB.out hb)
  clear hb
  clear bP_0 bP_1 bP_l bU_0 bU_1 bU_l bQ_0 bQ_1 bQ_l bV_0 bV_1 bV_l bR1_0 bR1_1 bR1_l bR2_0 bR2_1 bR2_l
  have bP_0 := bP.cell 0 rfl
  have bP_1 := bP.cell 1 rfl
  have bP_l := bP.lt
  have bU_0 := bU.cell 0 rfl
  have bU_1 := bU.cell 1 rfl
  have bU_l := bU.lt
  have bQ_0 := bQ.cell 0 rfl
  have bQ_1 := bQ.cell 1 rfl
  have bQ_l := bQ.lt
  have bV_0 := bV.cell 0 rfl
  have bV_1 := bV.cell 1 rfl
  have bV_l := bV.lt
  have bR1_0 := bR1.cell 0 rfl
  have bR1_1 := bR1.cell 1 rfl
  have bR1_l := bR1.lt
  have bR2_0 := bR2.cell 0 rfl
  have bR2_1 := bR2.cell 1 rfl
  have bR2_l := bR2.lt
  go_wp2_with fail
  refine (KR.out _).mono ?_
  rintro e w3 ⟨rfl, hb⟩
  replace bP := bP.on hb
  replace bU := bU.on hb
  replace bQ := bQ.on hb
  replace bV := bV.on hb
  replace bR1 := bR1.on hb
  replace bR2 := bR2.on hb
  replace HB := Lib.hid (bel_end HB.out hb)
  clear hb
  clear bP_0 bP_1 bP_l bU_0 bU_1 bU_l bQ_0 bQ_1 bQ_l bV_0 bV_1 bV_l bR1_0 bR1_1 bR1_l bR2_0 bR2_1 bR2_l
  have bP_0 := bP.cell 0 rfl
  have bP_1 := bP.cell 1 rfl
  have bP_l := bP.lt
  have bU_0 := bU.cell 0 rfl
  have bU_1 := bU.cell 1 rfl
  have bU_l := bU.lt
  have bQ_0 := bQ.cell 0 rfl
  have bQ_1 := bQ.cell 1 rfl
  have bQ_l := bQ.lt
  have bV_0 := bV.cell 0 rfl
  have bV_1 := bV.cell 1 rfl
  have bV_l := bV.lt
  have bR1_0 := bR1.cell 0 rfl
  have bR1_1 := bR1.cell 1 rfl
  have bR1_l := bR1.lt
  have bR2_0 := bR2.cell 0 rfl
  have bR2_1 := bR2.cell 1 rfl
  have bR2_l := bR2.lt
  go_wp2_with fail
  refine (KE.out _).mono ?_
  rintro e w4 ⟨rfl, hb⟩
  replace bP := bP.on hb
  replace bU := bU.on hb
  replace bQ := bQ.on hb
  replace bV := bV.on hb
  replace bR1 := bR1.on hb
  replace bR2 := bR2.on hb
  replace HB := Lib.hid (bel_end HB.out hb)
  clear hb
  clear bP_0 bP_1 bP_l bU_0 bU_1 bU_l bQ_0 bQ_1 bQ_l bV_0 bV_1 bV_l bR1_0 bR1_1 bR1_l bR2_0 bR2_1 bR2_l
  have bP_0 := bP.cell 0 rfl
  have bP_1 := bP.cell 1 rfl
  have bP_l := bP.lt
  have bU_0 := bU.cell 0 rfl
  have bU_1 := bU.cell 1 rfl
  have bU_l := bU.lt
  have bQ_0 := bQ.cell 0 rfl
  have bQ_1 := bQ.cell 1 rfl
  have bQ_l := bQ.lt
  have bV_0 := bV.cell 0 rfl
  have bV_1 := bV.cell 1 rfl
  have bV_l := bV.lt
  have bR1_0 := bR1.cell 0 rfl
  have bR1_1 := bR1.cell 1 rfl
  have bR1_l := bR1.lt
  have bR2_0 := bR2.cell 0 rfl
  have bR2_1 := bR2.cell 1 rfl
  have bR2_l := bR2.lt
  go_wp2_with fail
  refine (K1.out _).mono ?_
  rintro e w5 ⟨rfl, hb⟩
  replace bP := bP.on hb
  replace bU := bU.on hb
  replace bQ := bQ.on hb
  replace bV := bV.on hb
  replace bR1 := bR1.on hb
  replace bR2 := bR2.on hb
  replace HB := Lib.hid (bel_end HB.out hb)
  clear hb
  clear bP_0 bP_1 bP_l bU_0 bU_1 bU_l bQ_0 bQ_1 bQ_l bV_0 bV_1 bV_l bR1_0 bR1_1 bR1_l bR2_0 bR2_1 bR2_l
  by_cases hD : D = 0
  case pos =>
    have HT : Hid (cfT px py ux uy qx qy vx vy = (0, 0, 0, 0, 5)) := Lib.hid (by rw [HT0.out]; exact if_pos hD)
    subst hD
    have bP_0 := bP.cell 0 rfl
    have bP_1 := bP.cell 1 rfl
    have bP_l := bP.lt
    have bU_0 := bU.cell 0 rfl
    have bU_1 := bU.cell 1 rfl
    have bU_l := bU.lt
    have bQ_0 := bQ.cell 0 rfl
    have bQ_1 := bQ.cell 1 rfl
    have bQ_l := bQ.lt
    have bV_0 := bV.cell 0 rfl
    have bV_1 := bV.cell 1 rfl
    have bV_l := bV.lt
    have bR1_0 := bR1.cell 0 rfl
    have bR1_1 := bR1.cell 1 rfl
    have bR1_l := bR1.lt
    have bR2_0 := bR2.cell 0 rfl
    have bR2_1 := bR2.cell 1 rfl
    have bR2_l := bR2.lt
    go_upto_region 5 with fail
    go_cut [10] from 44 to 45 (fun s10 wx => s10 = .int .i64 5 ∧ Bk wx (w.heap.size + 1 + 1 + 1 + 1) #[.int .i64 0, .int .i64 0] 34 ∧ Bk wx (w.heap.size + 1 + 1 + 1 + 1 + 1) #[.int .i64 0, .int .i64 0] 34 ∧ Below w.heap.size w wx)
    case first =>
      have bR1_f0 := bR1.frozen 0
      have bR1_f1 := bR1.frozen 1
      have bR2_f0 := bR2.frozen 0
      have bR2_f1 := bR2.frozen 1
      go_wp2_with fail
      go_meet
      exact ⟨rfl, (((bR1.set 0 _ rfl).set 1 _ rfl).other (by omega) 0 _).other (by omega) 1 _, (((bR2.other (by omega) 0 _).other (by omega) 1 _).set 0 _ rfl).set 1 _ rfl, (by repeat (first | exact HB.out | (refine Below.setCell ?_ (by simp <;> omega) _) | (refine Below.alloc ?_ (by simp <;> omega) _) | (refine Below.drew ?_)))⟩
    case rest =>
      obtain ⟨rfl, z1, z2, hbz⟩ := hcut
      have c0 := z1.cell 0 rfl
      have c1 := z1.cell 1 rfl
      have c2 := z2.cell 0 rfl
      have c3 := z2.cell 1 rfl
      repeat (first | go_step | go_skip)
      exact bodyPost_ret (v := .tuple #[.agg #[.int .i64 0, .int .i64 0], .agg #[.int .i64 0, .int .i64 0], .int .i64 5]) (by simp [results, Try.results23, go_sem, c0, c1, c2, c3]) rfl ⟨ret5e (HT.out), hbz⟩
  case neg =>
    have hD2 : (D == 0) = false := by simpa using hD
    replace HT0 := Lib.hid (HT0.out.trans (if_neg hD))
    replace KX := Lib.hid (KX.out hD)
    replace KY := Lib.hid (KY.out hD)
    clear hD
    have bP_0 := bP.cell 0 rfl
    have bP_1 := bP.cell 1 rfl
    have bP_l := bP.lt
    have bU_0 := bU.cell 0 rfl
    have bU_1 := bU.cell 1 rfl
    have bU_l := bU.lt
    have bQ_0 := bQ.cell 0 rfl
    have bQ_1 := bQ.cell 1 rfl
    have bQ_l := bQ.lt
    have bV_0 := bV.cell 0 rfl
    have bV_1 := bV.cell 1 rfl
    have bV_l := bV.lt
    have bR1_0 := bR1.cell 0 rfl
    have bR1_1 := bR1.cell 1 rfl
    have bR1_l := bR1.lt
    have bR2_0 := bR2.cell 0 rfl
    have bR2_1 := bR2.cell 1 rfl
    have bR2_l := bR2.lt
    go_wp2_with fail
    refine (KM.out _).mono ?_
    rintro e w6 ⟨rfl, hb⟩
    replace bP := bP.on hb
    replace bU := bU.on hb
    replace bQ := bQ.on hb
    replace bV := bV.on hb
    replace bR1 := bR1.on hb
    replace bR2 := bR2.on hb
    replace HB := Lib.hid (bel_end HB.out hb)
    clear hb
    clear bP_0 bP_1 bP_l bU_0 bU_1 bU_l bQ_0 bQ_1 bQ_l bV_0 bV_1 bV_l bR1_0 bR1_1 bR1_l bR2_0 bR2_1 bR2_l
    have bP_0 := bP.cell 0 rfl
    have bP_1 := bP.cell 1 rfl
    have bP_l := bP.lt
    have bU_0 := bU.cell 0 rfl
    have bU_1 := bU.cell 1 rfl
    have bU_l := bU.lt
    have bQ_0 := bQ.cell 0 rfl
    have bQ_1 := bQ.cell 1 rfl
    have bQ_l := bQ.lt
    have bV_0 := bV.cell 0 rfl
    have bV_1 := bV.cell 1 rfl
    have bV_l := bV.lt
    have bR1_0 := bR1.cell 0 rfl
    have bR1_1 := bR1.cell 1 rfl
    have bR1_l := bR1.lt
    have bR2_0 := bR2.cell 0 rfl
    have bR2_1 := bR2.cell 1 rfl
    have bR2_l := bR2.lt
    go_upto_region 7 with fail
    clear bP_0 bP_1 bP_l bU_0 bU_1 bU_l bQ_0 bQ_1 bQ_l bV_0 bV_1 bV_l bR1_0 bR1_1 bR1_l bR2_0 bR2_1 bR2_l
    generalize hW : World.alloc _ _ = WbN
    obtain ⟨gN, hg⟩ : ∃ g, g = w6.heap.size := ⟨_, rfl⟩
    have bN : Bk WbN gN #[.int .i64 X, .int .i64 Y] 25 := by rw [← hW]; exact Bk.new' hg
    have hb : Below w6.heap.size w6 WbN := by rw [← hW]; exact (Below.refl _ _).alloc (Nat.le_refl _) _
    have nebN_bP : gN ≠ w.heap.size := by have := bP.lt; omega
    have nebN_bU : gN ≠ w.heap.size + 1 := by have := bU.lt; omega
    have nebN_bQ : gN ≠ w.heap.size + 1 + 1 := by have := bQ.lt; omega
    have nebN_bV : gN ≠ w.heap.size + 1 + 1 + 1 := by have := bV.lt; omega
    have nebN_bR1 : gN ≠ w.heap.size + 1 + 1 + 1 + 1 := by have := bR1.lt; omega
    have nebN_bR2 : gN ≠ w.heap.size + 1 + 1 + 1 + 1 + 1 := by have := bR2.lt; omega
    try rw [← hg]
    clear hW hg
    replace bP := bP.on hb
    replace bU := bU.on hb
    replace bQ := bQ.on hb
    replace bV := bV.on hb
    replace bR1 := bR1.on hb
    replace bR2 := bR2.on hb
    replace HB := Lib.hid (bel_end HB.out hb)
    clear hb
    have bP_0 := bP.cell 0 rfl
    have bP_1 := bP.cell 1 rfl
    have bP_l := bP.lt
    have bU_0 := bU.cell 0 rfl
    have bU_1 := bU.cell 1 rfl
    have bU_l := bU.lt
    have bQ_0 := bQ.cell 0 rfl
    have bQ_1 := bQ.cell 1 rfl
    have bQ_l := bQ.lt
    have bV_0 := bV.cell 0 rfl
    have bV_1 := bV.cell 1 rfl
    have bV_l := bV.lt
    have bR1_0 := bR1.cell 0 rfl
    have bR1_1 := bR1.cell 1 rfl
    have bR1_l := bR1.lt
    have bR2_0 := bR2.cell 0 rfl
    have bR2_1 := bR2.cell 1 rfl
    have bR2_l := bR2.lt
    have bN_0 := bN.cell 0 rfl
    have bN_1 := bN.cell 1 rfl
    have bN_l := bN.lt
    go_upto_region 7 with fail
    clear bP_0 bP_1 bP_l bU_0 bU_1 bU_l bQ_0 bQ_1 bQ_l bV_0 bV_1 bV_l bR1_0 bR1_1 bR1_l bR2_0 bR2_1 bR2_l bN_0 bN_1 bN_l
    go_cut [13, 14, 49, 50, 51, 52, 53, 54] from 49 to 54 (fun s13 s14 s49 s50 s51 s52 s53 s54 wx => s13 = .int .i64 T ∧ s14 = .int .i64 L ∧ s49 = .agg #[.int .i64 X, .int .i64 Y] ∧ s50 = .agg #[.int .i64 vx, .int .i64 vy] ∧ s51 = .int .i64 T ∧ s52 = .agg #[.int .i64 X, .int .i64 Y] ∧ s53 = .agg #[.int .i64 ux, .int .i64 uy] ∧ s54 = .int .i64 L ∧ Below WbN.heap.size WbN wx)
    case first =>
      have HW : Hid (Below WbN.heap.size WbN WbN) := Lib.hid (Below.refl _ _)
      obtain ⟨S, hSd⟩ : ∃ S : World → Prop, ∀ w', S w' ↔ (w'.cell? ⟨gN, 0, none⟩ = some (.int .i64 X) ∧ w'.cell? ⟨gN, 1, none⟩ = some (.int .i64 Y) ∧ w'.cell? ⟨w.heap.size + 1, 0, none⟩ = some (.int .i64 ux) ∧ w'.cell? ⟨w.heap.size + 1, 1, none⟩ = some (.int .i64 uy) ∧ w'.cell? ⟨w.heap.size + 1 + 1 + 1, 0, none⟩ = some (.int .i64 vx) ∧ w'.cell? ⟨w.heap.size + 1 + 1 + 1, 1, none⟩ = some (.int .i64 vy)) := ⟨_, fun _ => Iff.rfl⟩
      have HSp : Hid (∀ w' : World, Bk w' (gN) #[.int .i64 X, .int .i64 Y] 25 → Bk w' (w.heap.size + 1) #[.int .i64 ux, .int .i64 uy] 25 → Bk w' (w.heap.size + 1 + 1 + 1) #[.int .i64 vx, .int .i64 vy] 25 → S w') := Lib.hid (fun w' bN bU bV => (hSd w').2 ⟨bN.cell 0 rfl, bN.cell 1 rfl, bU.cell 0 rfl, bU.cell 1 rfl, bV.cell 0 rfl, bV.cell 1 rfl⟩)
      have HSd := Lib.hid hSd
      clear hSd
      refine wp_region_held_drew (S := S) (by kernel_rfl) ?_ (fun hH => ?_)
      · exact (HSp.out _ bN bU bV : S (World.drew WbN))
      clear hH
      generalize hX : World.drew WbN = V0
      replace bU : Bk V0 (w.heap.size + 1) #[.int .i64 ux, .int .i64 uy] 25 := by rw [← hX]; exact bU
      replace bV : Bk V0 (w.heap.size + 1 + 1 + 1) #[.int .i64 vx, .int .i64 vy] 25 := by rw [← hX]; exact bV
      replace bN : Bk V0 (gN) #[.int .i64 X, .int .i64 Y] 25 := by rw [← hX]; exact bN
      have hb : Below WbN.heap.size WbN V0 := by rw [← hX]; exact (Below.refl _ _).drew
      clear hX
      replace HW := Lib.hid (bel_end HW.out hb)
      clear hb
      have hS := HSp.out _ bN bU bV
      refine wpAnyH_take (i := 0) (oi := { dst := some 49, op := Go.Op.load 25 (Go.Operand.tmp 12), type := 25, pos := "l12_bearings.go:75", after := #[], guard := none }) (v := ?_) rfl (by kernel_rfl) (by kernel_rfl) (by kernel_rfl) (fun _ _ _ h => h) (Or.inl ⟨by rfl, ?_⟩) hS ?_
      rotate_left
      · (intro w hSw; have hSw := (HSd.out w).1 hSw; go_split_ands; go_simp) <;> with_reducible rfl
      clear hS
      try simp only [Act.put, List.setIfInBounds_toArray, List.set_cons_zero, List.set_cons_succ]
      have hS := HSp.out _ bN bU bV
      refine wpAnyH_take (i := 1) (oi := { dst := some 50, op := Go.Op.load 25 (Go.Operand.tmp 7), type := 25, pos := "l12_bearings.go:75", after := #[], guard := none }) (v := ?_) rfl (by kernel_rfl) (by kernel_rfl) (by kernel_rfl) (fun _ _ _ h => h) (Or.inl ⟨by rfl, ?_⟩) hS ?_
      rotate_left
      · (intro w hSw; have hSw := (HSd.out w).1 hSw; go_split_ands; go_simp) <;> with_reducible rfl
      clear hS
      try simp only [Act.put, List.setIfInBounds_toArray, List.set_cons_zero, List.set_cons_succ]
      have hS := HSp.out _ bN bU bV
      refine wpAnyH_take (i := 3) (oi := { dst := some 52, op := Go.Op.load 25 (Go.Operand.tmp 12), type := 25, pos := "l12_bearings.go:75", after := #[], guard := none }) (v := ?_) rfl (by kernel_rfl) (by kernel_rfl) (by kernel_rfl) (fun _ _ _ h => h) (Or.inl ⟨by rfl, ?_⟩) hS ?_
      rotate_left
      · (intro w hSw; have hSw := (HSd.out w).1 hSw; go_split_ands; go_simp) <;> with_reducible rfl
      clear hS
      try simp only [Act.put, List.setIfInBounds_toArray, List.set_cons_zero, List.set_cons_succ]
      have hS := HSp.out _ bN bU bV
      refine wpAnyH_take (i := 4) (oi := { dst := some 53, op := Go.Op.load 25 (Go.Operand.tmp 5), type := 25, pos := "l12_bearings.go:75", after := #[], guard := none }) (v := ?_) rfl (by kernel_rfl) (by kernel_rfl) (by kernel_rfl) (fun _ _ _ h => h) (Or.inl ⟨by rfl, ?_⟩) hS ?_
      rotate_left
      · (intro w hSw; have hSw := (HSd.out w).1 hSw; go_split_ands; go_simp) <;> with_reducible rfl
      clear hS
      try simp only [Act.put, List.setIfInBounds_toArray, List.set_cons_zero, List.set_cons_succ]
      refine wpAnyH_ready (rs := [2]) (by kernel_rfl) (by simp) ?_
      refine AllReadyH.cons (o := { dst := some 51, op := Go.Op.call { callee := Go.Callee.value (Go.Operand.func 50), args := #[Go.Operand.tmp 49, Go.Operand.tmp 50], argTypes := #[25, 25] }, type := 2, pos := "l12_bearings.go:75", after := #[{ on := 0, ground := Go.Ground.data }, { on := 1, ground := Go.Ground.data }], guard := none }) rfl (fun Kn hK => ?_) AllReadyH.nil
      first | go_at_call 50 | (go_simp; go_at_call 50)
      (with_reducible refine Calls.mono (K2.out  _) ?_)
      rintro e V1 ⟨rfl, hb⟩
      try dsimp only
      try simp only [Act.put, List.setIfInBounds_toArray, List.set_cons_zero, List.set_cons_succ]
      replace bU := bU.on hb
      replace bV := bV.on hb
      replace bN := bN.on hb
      replace HW := Lib.hid (bel_end HW.out hb)
      clear hb
      refine hK.out _ _ (HSp.out _ bN bU bV) (fun _ => ?_)
      clear hK Kn
      refine wpAnyH_ready (rs := [5]) (by kernel_rfl) (by simp) ?_
      refine AllReadyH.cons (o := { dst := some 54, op := Go.Op.call { callee := Go.Callee.value (Go.Operand.func 50), args := #[Go.Operand.tmp 52, Go.Operand.tmp 53], argTypes := #[25, 25] }, type := 2, pos := "l12_bearings.go:75", after := #[{ on := 3, ground := Go.Ground.data }, { on := 4, ground := Go.Ground.data }, { on := 2, ground := Go.Ground.chain }], guard := none }) rfl (fun Kn hK => ?_) AllReadyH.nil
      first | go_at_call 50 | (go_simp; go_at_call 50)
      (with_reducible refine Calls.mono (K3.out  _) ?_)
      rintro e V2 ⟨rfl, hb⟩
      try dsimp only
      try simp only [Act.put, List.setIfInBounds_toArray, List.set_cons_zero, List.set_cons_succ]
      replace bU := bU.on hb
      replace bV := bV.on hb
      replace bN := bN.on hb
      replace HW := Lib.hid (bel_end HW.out hb)
      clear hb
      refine hK.out _ _ (HSp.out _ bN bU bV) (fun _ => ?_)
      clear hK Kn
      have hS := HSp.out _ bN bU bV
      refine wpAnyH_take (i := 6) (oi := { dst := some 13, op := Go.Op.assign (Go.Operand.tmp 51), type := 2, pos := "l12_bearings.go:75", after := #[{ on := 2, ground := Go.Ground.data }, { on := 5, ground := Go.Ground.chain }, { on := 0, ground := Go.Ground.phase }, { on := 1, ground := Go.Ground.phase }, { on := 2, ground := Go.Ground.phase }, { on := 3, ground := Go.Ground.textOnly Go.Departure.lateStores }, { on := 4, ground := Go.Ground.textOnly Go.Departure.lateStores }, { on := 5, ground := Go.Ground.textOnly Go.Departure.lateStoresUnsure }], guard := none }) (v := ?_) rfl (by kernel_rfl) (by kernel_rfl) (by kernel_rfl) (fun _ _ _ h => h) (Or.inl ⟨by rfl, ?_⟩) hS ?_
      rotate_left
      · (intro w hSw; have hSw := (HSd.out w).1 hSw; go_split_ands; go_simp) <;> with_reducible rfl
      clear hS
      try simp only [Act.put, List.setIfInBounds_toArray, List.set_cons_zero, List.set_cons_succ]
      have hS := HSp.out _ bN bU bV
      refine wpAnyH_take (i := 7) (oi := { dst := some 14, op := Go.Op.assign (Go.Operand.tmp 54), type := 2, pos := "l12_bearings.go:75", after := #[{ on := 5, ground := Go.Ground.data }, { on := 6, ground := Go.Ground.chain }, { on := 0, ground := Go.Ground.phase }, { on := 1, ground := Go.Ground.phase }, { on := 2, ground := Go.Ground.phase }, { on := 3, ground := Go.Ground.phase }, { on := 4, ground := Go.Ground.phase }, { on := 5, ground := Go.Ground.phase }, { on := 6, ground := Go.Ground.phase }], guard := none }) (v := ?_) rfl (by kernel_rfl) (by kernel_rfl) (by kernel_rfl) (fun _ _ _ h => h) (Or.inl ⟨by rfl, ?_⟩) hS ?_
      rotate_left
      · (intro w hSw; have hSw := (HSd.out w).1 hSw; go_split_ands; go_simp) <;> with_reducible rfl
      clear hS
      try simp only [Act.put, List.setIfInBounds_toArray, List.set_cons_zero, List.set_cons_succ]
      refine wpAnyH_done (by kernel_rfl) ?_ _
      go_wp2_with fail
      go_meet
      exact ⟨rfl, rfl, rfl, rfl, rfl, rfl, rfl, rfl, HW.out⟩
    case rest =>
      obtain ⟨rfl, rfl, rfl, rfl, rfl, rfl, rfl, rfl, hb⟩ := hcut
      replace bP := bP.on hb
      replace bU := bU.on hb
      replace bQ := bQ.on hb
      replace bV := bV.on hb
      replace bR1 := bR1.on hb
      replace bR2 := bR2.on hb
      replace bN := bN.on hb
      replace HB := Lib.hid (bel_end HB.out hb)
      clear hb
      clear bN bQ bV
      clear nebN_bP nebN_bU nebN_bQ nebN_bV nebN_bR1 nebN_bR2
      obtain ⟨wA1, wA2, wA3, wA4, wTD, wLD, wNX, wNY⟩ := WW.out
      clear WW
      have bP_0 := bP.cell 0 rfl
      have bP_1 := bP.cell 1 rfl
      have bP_l := bP.lt
      have bU_0 := bU.cell 0 rfl
      have bU_1 := bU.cell 1 rfl
      have bU_l := bU.lt
      have bR1_0 := bR1.cell 0 rfl
      have bR1_1 := bR1.cell 1 rfl
      have bR1_l := bR1.lt
      have bR2_0 := bR2.cell 0 rfl
      have bR2_1 := bR2.cell 1 rfl
      have bR2_l := bR2.lt
      go_wp2_with fail
      refine (KST.out _).mono ?_
      rintro e w7 ⟨rfl, hb⟩
      replace bP := bP.on hb
      replace bU := bU.on hb
      replace bR1 := bR1.on hb
      replace bR2 := bR2.on hb
      replace HB := Lib.hid (bel_end HB.out hb)
      clear hb
      clear bP_0 bP_1 bP_l bU_0 bU_1 bU_l bR1_0 bR1_1 bR1_l bR2_0 bR2_1 bR2_l
      have bP_0 := bP.cell 0 rfl
      have bP_1 := bP.cell 1 rfl
      have bP_l := bP.lt
      have bU_0 := bU.cell 0 rfl
      have bU_1 := bU.cell 1 rfl
      have bU_l := bU.lt
      have bR1_0 := bR1.cell 0 rfl
      have bR1_1 := bR1.cell 1 rfl
      have bR1_l := bR1.lt
      have bR2_0 := bR2.cell 0 rfl
      have bR2_1 := bR2.cell 1 rfl
      have bR2_l := bR2.lt
      go_wp2_with fail
      refine (KSD.out _).mono ?_
      rintro e w8 ⟨rfl, hb⟩
      replace bP := bP.on hb
      replace bU := bU.on hb
      replace bR1 := bR1.on hb
      replace bR2 := bR2.on hb
      replace HB := Lib.hid (bel_end HB.out hb)
      clear hb
      clear bP_0 bP_1 bP_l bU_0 bU_1 bU_l bR1_0 bR1_1 bR1_l bR2_0 bR2_1 bR2_l
      by_cases hT : TD < 0
      case pos =>
        have HT : Hid (cfT px py ux uy qx qy vx vy = (0, 0, 0, 0, 4)) := Lib.hid (HT0.out.trans (if_pos (HN0.out.2 (.inl hT))))
        have bP_0 := bP.cell 0 rfl
        have bP_1 := bP.cell 1 rfl
        have bP_l := bP.lt
        have bU_0 := bU.cell 0 rfl
        have bU_1 := bU.cell 1 rfl
        have bU_l := bU.lt
        have bR1_0 := bR1.cell 0 rfl
        have bR1_1 := bR1.cell 1 rfl
        have bR1_l := bR1.lt
        have bR2_0 := bR2.cell 0 rfl
        have bR2_1 := bR2.cell 1 rfl
        have bR2_l := bR2.lt
        go_upto_region 9 with fail
        go_cut [10] from 69 to 70 (fun s10 wx => s10 = .int .i64 4 ∧ Bk wx (w.heap.size + 1 + 1 + 1 + 1) #[.int .i64 0, .int .i64 0] 34 ∧ Bk wx (w.heap.size + 1 + 1 + 1 + 1 + 1) #[.int .i64 0, .int .i64 0] 34 ∧ Below w.heap.size w wx)
        case first =>
          have bR1_f0 := bR1.frozen 0
          have bR1_f1 := bR1.frozen 1
          have bR2_f0 := bR2.frozen 0
          have bR2_f1 := bR2.frozen 1
          go_wp2_with fail
          go_meet
          exact ⟨rfl, (((bR1.set 0 _ rfl).set 1 _ rfl).other (by omega) 0 _).other (by omega) 1 _, (((bR2.other (by omega) 0 _).other (by omega) 1 _).set 0 _ rfl).set 1 _ rfl, (by repeat (first | exact HB.out | (refine Below.setCell ?_ (by simp <;> omega) _) | (refine Below.alloc ?_ (by simp <;> omega) _) | (refine Below.drew ?_)))⟩
        case rest =>
          obtain ⟨rfl, z1, z2, hbz⟩ := hcut
          have c0 := z1.cell 0 rfl
          have c1 := z1.cell 1 rfl
          have c2 := z2.cell 0 rfl
          have c3 := z2.cell 1 rfl
          repeat (first | go_step | go_skip)
          exact bodyPost_ret (v := .tuple #[.agg #[.int .i64 0, .int .i64 0], .agg #[.int .i64 0, .int .i64 0], .int .i64 4]) (by simp [results, Try.results23, go_sem, c0, c1, c2, c3]) rfl ⟨ret5e (HT.out), hbz⟩
      case neg =>
        have bP_0 := bP.cell 0 rfl
        have bP_1 := bP.cell 1 rfl
        have bP_l := bP.lt
        have bU_0 := bU.cell 0 rfl
        have bU_1 := bU.cell 1 rfl
        have bU_l := bU.lt
        have bR1_0 := bR1.cell 0 rfl
        have bR1_1 := bR1.cell 1 rfl
        have bR1_l := bR1.lt
        have bR2_0 := bR2.cell 0 rfl
        have bR2_1 := bR2.cell 1 rfl
        have bR2_l := bR2.lt
        go_wp2_with fail
        refine (KSL.out _).mono ?_
        rintro e w9 ⟨rfl, hb⟩
        replace bP := bP.on hb
        replace bU := bU.on hb
        replace bR1 := bR1.on hb
        replace bR2 := bR2.on hb
        replace HB := Lib.hid (bel_end HB.out hb)
        clear hb
        clear bP_0 bP_1 bP_l bU_0 bU_1 bU_l bR1_0 bR1_1 bR1_l bR2_0 bR2_1 bR2_l
        have bP_0 := bP.cell 0 rfl
        have bP_1 := bP.cell 1 rfl
        have bP_l := bP.lt
        have bU_0 := bU.cell 0 rfl
        have bU_1 := bU.cell 1 rfl
        have bU_l := bU.lt
        have bR1_0 := bR1.cell 0 rfl
        have bR1_1 := bR1.cell 1 rfl
        have bR1_l := bR1.lt
        have bR2_0 := bR2.cell 0 rfl
        have bR2_1 := bR2.cell 1 rfl
        have bR2_l := bR2.lt
        go_wp2_with fail
        refine (KSD.out _).mono ?_
        rintro e w10 ⟨rfl, hb⟩
        replace bP := bP.on hb
        replace bU := bU.on hb
        replace bR1 := bR1.on hb
        replace bR2 := bR2.on hb
        replace HB := Lib.hid (bel_end HB.out hb)
        clear hb
        clear bP_0 bP_1 bP_l bU_0 bU_1 bU_l bR1_0 bR1_1 bR1_l bR2_0 bR2_1 bR2_l
        by_cases hL : LD < 0
        case pos =>
          have HT : Hid (cfT px py ux uy qx qy vx vy = (0, 0, 0, 0, 4)) := Lib.hid (HT0.out.trans (if_pos (HN0.out.2 (.inr hL))))
          have bP_0 := bP.cell 0 rfl
          have bP_1 := bP.cell 1 rfl
          have bP_l := bP.lt
          have bU_0 := bU.cell 0 rfl
          have bU_1 := bU.cell 1 rfl
          have bU_l := bU.lt
          have bR1_0 := bR1.cell 0 rfl
          have bR1_1 := bR1.cell 1 rfl
          have bR1_l := bR1.lt
          have bR2_0 := bR2.cell 0 rfl
          have bR2_1 := bR2.cell 1 rfl
          have bR2_l := bR2.lt
          go_upto_region 9 with fail
          go_cut [10] from 69 to 70 (fun s10 wx => s10 = .int .i64 4 ∧ Bk wx (w.heap.size + 1 + 1 + 1 + 1) #[.int .i64 0, .int .i64 0] 34 ∧ Bk wx (w.heap.size + 1 + 1 + 1 + 1 + 1) #[.int .i64 0, .int .i64 0] 34 ∧ Below w.heap.size w wx)
          case first =>
            have bR1_f0 := bR1.frozen 0
            have bR1_f1 := bR1.frozen 1
            have bR2_f0 := bR2.frozen 0
            have bR2_f1 := bR2.frozen 1
            go_wp2_with fail
            go_meet
            exact ⟨rfl, (((bR1.set 0 _ rfl).set 1 _ rfl).other (by omega) 0 _).other (by omega) 1 _, (((bR2.other (by omega) 0 _).other (by omega) 1 _).set 0 _ rfl).set 1 _ rfl, (by repeat (first | exact HB.out | (refine Below.setCell ?_ (by simp <;> omega) _) | (refine Below.alloc ?_ (by simp <;> omega) _) | (refine Below.drew ?_)))⟩
          case rest =>
            obtain ⟨rfl, z1, z2, hbz⟩ := hcut
            have c0 := z1.cell 0 rfl
            have c1 := z1.cell 1 rfl
            have c2 := z2.cell 0 rfl
            have c3 := z2.cell 1 rfl
            repeat (first | go_step | go_skip)
            exact bodyPost_ret (v := .tuple #[.agg #[.int .i64 0, .int .i64 0], .agg #[.int .i64 0, .int .i64 0], .int .i64 4]) (by simp [results, Try.results23, go_sem, c0, c1, c2, c3]) rfl ⟨ret5e (HT.out), hbz⟩
        case neg =>
          replace HT0 := Lib.hid (HT0.out.trans (if_neg (fun h => by have := HN0.out.1 h; omega)))
          clear HN0
          have bP_0 := bP.cell 0 rfl
          have bP_1 := bP.cell 1 rfl
          have bP_l := bP.lt
          have bU_0 := bU.cell 0 rfl
          have bU_1 := bU.cell 1 rfl
          have bU_l := bU.lt
          have bR1_0 := bR1.cell 0 rfl
          have bR1_1 := bR1.cell 1 rfl
          have bR1_l := bR1.lt
          have bR2_0 := bR2.cell 0 rfl
          have bR2_1 := bR2.cell 1 rfl
          have bR2_l := bR2.lt
          go_wp2_with fail
          refine (KX.out _).mono ?_
          rintro e w11 ⟨rfl, hb⟩
          replace bP := bP.on hb
          replace bU := bU.on hb
          replace bR1 := bR1.on hb
          replace bR2 := bR2.on hb
          replace HB := Lib.hid (bel_end HB.out hb)
          clear hb
          clear bP_0 bP_1 bP_l bU_0 bU_1 bU_l bR1_0 bR1_1 bR1_l bR2_0 bR2_1 bR2_l
          clear hT hL
          have bP_0 := bP.cell 0 rfl
          have bP_1 := bP.cell 1 rfl
          have bP_l := bP.lt
          have bU_0 := bU.cell 0 rfl
          have bU_1 := bU.cell 1 rfl
          have bU_l := bU.lt
          have bR1_0 := bR1.cell 0 rfl
          have bR1_1 := bR1.cell 1 rfl
          have bR1_l := bR1.lt
          have bR2_0 := bR2.cell 0 rfl
          have bR2_1 := bR2.cell 1 rfl
          have bR2_l := bR2.lt
          go_upto_region 11 with fail
          clear bP_0 bP_1 bP_l bU_0 bU_1 bU_l bR1_0 bR1_1 bR1_l bR2_0 bR2_1 bR2_l
          generalize hW : World.alloc _ _ = WbX
          obtain ⟨gX, hg⟩ : ∃ g, g = w11.heap.size := ⟨_, rfl⟩
          have bX : Bk WbX gX #[.int .i64 xn, .int .i64 xd] 34 := by rw [← hW]; exact Bk.new' hg
          have hb : Below w11.heap.size w11 WbX := by rw [← hW]; exact (Below.refl _ _).alloc (Nat.le_refl _) _
          have nebX_bP : gX ≠ w.heap.size := by have := bP.lt; omega
          have nebX_bU : gX ≠ w.heap.size + 1 := by have := bU.lt; omega
          have nebX_bR1 : gX ≠ w.heap.size + 1 + 1 + 1 + 1 := by have := bR1.lt; omega
          have nebX_bR2 : gX ≠ w.heap.size + 1 + 1 + 1 + 1 + 1 := by have := bR2.lt; omega
          try rw [← hg]
          clear hW hg
          replace bP := bP.on hb
          replace bU := bU.on hb
          replace bR1 := bR1.on hb
          replace bR2 := bR2.on hb
          replace HB := Lib.hid (bel_end HB.out hb)
          clear hb
          have bP_0 := bP.cell 0 rfl
          have bP_1 := bP.cell 1 rfl
          have bP_l := bP.lt
          have bU_0 := bU.cell 0 rfl
          have bU_1 := bU.cell 1 rfl
          have bU_l := bU.lt
          have bR1_0 := bR1.cell 0 rfl
          have bR1_1 := bR1.cell 1 rfl
          have bR1_l := bR1.lt
          have bR2_0 := bR2.cell 0 rfl
          have bR2_1 := bR2.cell 1 rfl
          have bR2_l := bR2.lt
          have bX_0 := bX.cell 0 rfl
          have bX_1 := bX.cell 1 rfl
          have bX_l := bX.lt
          go_wp2_with fail
          refine (KY.out _).mono ?_
          rintro e w12 ⟨rfl, hb⟩
          replace bP := bP.on hb
          replace bU := bU.on hb
          replace bR1 := bR1.on hb
          replace bR2 := bR2.on hb
          replace bX := bX.on hb
          replace HB := Lib.hid (bel_end HB.out hb)
          clear hb
          clear bP_0 bP_1 bP_l bU_0 bU_1 bU_l bR1_0 bR1_1 bR1_l bR2_0 bR2_1 bR2_l bX_0 bX_1 bX_l
          have bP_0 := bP.cell 0 rfl
          have bP_1 := bP.cell 1 rfl
          have bP_l := bP.lt
          have bU_0 := bU.cell 0 rfl
          have bU_1 := bU.cell 1 rfl
          have bU_l := bU.lt
          have bR1_0 := bR1.cell 0 rfl
          have bR1_1 := bR1.cell 1 rfl
          have bR1_l := bR1.lt
          have bR2_0 := bR2.cell 0 rfl
          have bR2_1 := bR2.cell 1 rfl
          have bR2_l := bR2.lt
          have bX_0 := bX.cell 0 rfl
          have bX_1 := bX.cell 1 rfl
          have bX_l := bX.lt
          go_upto_region 12 with fail
          clear bP_0 bP_1 bP_l bU_0 bU_1 bU_l bR1_0 bR1_1 bR1_l bR2_0 bR2_1 bR2_l bX_0 bX_1 bX_l
          generalize hW : World.alloc _ _ = WbY
          obtain ⟨gY, hg⟩ : ∃ g, g = w12.heap.size := ⟨_, rfl⟩
          have bY : Bk WbY gY #[.int .i64 yn, .int .i64 yd] 34 := by rw [← hW]; exact Bk.new' hg
          have hb : Below w12.heap.size w12 WbY := by rw [← hW]; exact (Below.refl _ _).alloc (Nat.le_refl _) _
          have nebY_bP : gY ≠ w.heap.size := by have := bP.lt; omega
          have nebY_bU : gY ≠ w.heap.size + 1 := by have := bU.lt; omega
          have nebY_bR1 : gY ≠ w.heap.size + 1 + 1 + 1 + 1 := by have := bR1.lt; omega
          have nebY_bR2 : gY ≠ w.heap.size + 1 + 1 + 1 + 1 + 1 := by have := bR2.lt; omega
          have nebY_bX : gY ≠ gX := by have := bX.lt; omega
          try rw [← hg]
          clear hW hg
          replace bP := bP.on hb
          replace bU := bU.on hb
          replace bR1 := bR1.on hb
          replace bR2 := bR2.on hb
          replace bX := bX.on hb
          replace HB := Lib.hid (bel_end HB.out hb)
          clear hb
          rcases CX.out with h0 | h0
          case inr =>
            have HT : Hid (cfT px py ux uy qx qy vx vy = (0, 0, 0, 0, 3)) := Lib.hid (HT0.out.trans (if_neg (fun h => by simp only [Prod.mk.injEq] at h0; omega)))
            simp only [Prod.mk.injEq] at h0
            obtain ⟨rfl, rfl, rfl⟩ := h0
            have bP_0 := bP.cell 0 rfl
            have bP_1 := bP.cell 1 rfl
            have bP_l := bP.lt
            have bU_0 := bU.cell 0 rfl
            have bU_1 := bU.cell 1 rfl
            have bU_l := bU.lt
            have bR1_0 := bR1.cell 0 rfl
            have bR1_1 := bR1.cell 1 rfl
            have bR1_l := bR1.lt
            have bR2_0 := bR2.cell 0 rfl
            have bR2_1 := bR2.cell 1 rfl
            have bR2_l := bR2.lt
            have bX_0 := bX.cell 0 rfl
            have bX_1 := bX.cell 1 rfl
            have bX_l := bX.lt
            have bY_0 := bY.cell 0 rfl
            have bY_1 := bY.cell 1 rfl
            have bY_l := bY.lt
            go_upto_region 13 with fail
            go_cut [10] from 105 to 106 (fun s10 wx => s10 = .int .i64 3 ∧ Bk wx (w.heap.size + 1 + 1 + 1 + 1) #[.int .i64 0, .int .i64 0] 34 ∧ Bk wx (w.heap.size + 1 + 1 + 1 + 1 + 1) #[.int .i64 0, .int .i64 0] 34 ∧ Below w.heap.size w wx)
            case first =>
              have bR1_f0 := bR1.frozen 0
              have bR1_f1 := bR1.frozen 1
              have bR2_f0 := bR2.frozen 0
              have bR2_f1 := bR2.frozen 1
              go_wp2_with fail
              go_meet
              exact ⟨rfl, (((bR1.set 0 _ rfl).set 1 _ rfl).other (by omega) 0 _).other (by omega) 1 _, (((bR2.other (by omega) 0 _).other (by omega) 1 _).set 0 _ rfl).set 1 _ rfl, (by repeat (first | exact HB.out | (refine Below.setCell ?_ (by simp <;> omega) _) | (refine Below.alloc ?_ (by simp <;> omega) _) | (refine Below.drew ?_)))⟩
            case rest =>
              obtain ⟨rfl, z1, z2, hbz⟩ := hcut
              have c0 := z1.cell 0 rfl
              have c1 := z1.cell 1 rfl
              have c2 := z2.cell 0 rfl
              have c3 := z2.cell 1 rfl
              repeat (first | go_step | go_skip)
              exact bodyPost_ret (v := .tuple #[.agg #[.int .i64 0, .int .i64 0], .agg #[.int .i64 0, .int .i64 0], .int .i64 3]) (by simp [results, Try.results23, go_sem, c0, c1, c2, c3]) rfl ⟨ret5e (HT.out), hbz⟩
          case inl =>
            subst h0
            clear CX
            rcases CY.out with h0 | h0
            case inr =>
              have HT : Hid (cfT px py ux uy qx qy vx vy = (0, 0, 0, 0, 3)) := Lib.hid (HT0.out.trans (if_neg (fun h => by simp only [Prod.mk.injEq] at h0; omega)))
              simp only [Prod.mk.injEq] at h0
              obtain ⟨rfl, rfl, rfl⟩ := h0
              have bP_0 := bP.cell 0 rfl
              have bP_1 := bP.cell 1 rfl
              have bP_l := bP.lt
              have bU_0 := bU.cell 0 rfl
              have bU_1 := bU.cell 1 rfl
              have bU_l := bU.lt
              have bR1_0 := bR1.cell 0 rfl
              have bR1_1 := bR1.cell 1 rfl
              have bR1_l := bR1.lt
              have bR2_0 := bR2.cell 0 rfl
              have bR2_1 := bR2.cell 1 rfl
              have bR2_l := bR2.lt
              have bX_0 := bX.cell 0 rfl
              have bX_1 := bX.cell 1 rfl
              have bX_l := bX.lt
              have bY_0 := bY.cell 0 rfl
              have bY_1 := bY.cell 1 rfl
              have bY_l := bY.lt
              go_upto_region 13 with fail
              go_cut [10] from 105 to 106 (fun s10 wx => s10 = .int .i64 3 ∧ Bk wx (w.heap.size + 1 + 1 + 1 + 1) #[.int .i64 0, .int .i64 0] 34 ∧ Bk wx (w.heap.size + 1 + 1 + 1 + 1 + 1) #[.int .i64 0, .int .i64 0] 34 ∧ Below w.heap.size w wx)
              case first =>
                have bR1_f0 := bR1.frozen 0
                have bR1_f1 := bR1.frozen 1
                have bR2_f0 := bR2.frozen 0
                have bR2_f1 := bR2.frozen 1
                go_wp2_with fail
                go_meet
                exact ⟨rfl, (((bR1.set 0 _ rfl).set 1 _ rfl).other (by omega) 0 _).other (by omega) 1 _, (((bR2.other (by omega) 0 _).other (by omega) 1 _).set 0 _ rfl).set 1 _ rfl, (by repeat (first | exact HB.out | (refine Below.setCell ?_ (by simp <;> omega) _) | (refine Below.alloc ?_ (by simp <;> omega) _) | (refine Below.drew ?_)))⟩
              case rest =>
                obtain ⟨rfl, z1, z2, hbz⟩ := hcut
                have c0 := z1.cell 0 rfl
                have c1 := z1.cell 1 rfl
                have c2 := z2.cell 0 rfl
                have c3 := z2.cell 1 rfl
                repeat (first | go_step | go_skip)
                exact bodyPost_ret (v := .tuple #[.agg #[.int .i64 0, .int .i64 0], .agg #[.int .i64 0, .int .i64 0], .int .i64 3]) (by simp [results, Try.results23, go_sem, c0, c1, c2, c3]) rfl ⟨ret5e (HT.out), hbz⟩
            case inl =>
              subst h0
              clear CY
              have HT := Lib.hid (HT0.out.trans (if_pos ⟨by trivial, by trivial⟩))
              have ltX := bX.lt
              have ltY := bY.lt
              clear HT0
              clear bP bU
              have bR1_0 := bR1.cell 0 rfl
              have bR1_1 := bR1.cell 1 rfl
              have bR1_l := bR1.lt
              have bR2_0 := bR2.cell 0 rfl
              have bR2_1 := bR2.cell 1 rfl
              have bR2_l := bR2.lt
              have bX_0 := bX.cell 0 rfl
              have bX_1 := bX.cell 1 rfl
              have bX_l := bX.lt
              have bY_0 := bY.cell 0 rfl
              have bY_1 := bY.cell 1 rfl
              have bY_l := bY.lt
              go_upto_region 14 with fail
              clear bR1_0 bR1_1 bR1_l bR2_0 bR2_1 bR2_l bX_0 bX_1 bX_l bY_0 bY_1 bY_l
              obtain ⟨S, hSd⟩ : ∃ S : World → Prop, ∀ w', S w' ↔ (w'.cell? ⟨gX, 0, none⟩ = some (.int .i64 xn) ∧ w'.cell? ⟨gX, 1, none⟩ = some (.int .i64 xd) ∧ w'.cell? ⟨gY, 0, none⟩ = some (.int .i64 yn) ∧ w'.cell? ⟨gY, 1, none⟩ = some (.int .i64 yd)) := ⟨_, fun _ => Iff.rfl⟩
              have HSp : Hid (∀ w' : World, Bk w' (gX) #[.int .i64 xn, .int .i64 xd] 34 → Bk w' (gY) #[.int .i64 yn, .int .i64 yd] 34 → S w') := Lib.hid (fun w' bX bY => (hSd w').2 ⟨bX.cell 0 rfl, bX.cell 1 rfl, bY.cell 0 rfl, bY.cell 1 rfl⟩)
              have HSd := Lib.hid hSd
              clear hSd
              refine wp_region_held_drew (S := S) (by kernel_rfl) ?_ (fun hH => ?_)
              · exact (HSp.out _ bX bY : S (World.drew WbY))
              clear hH
              generalize hX : World.drew WbY = V0
              replace bR1 : Bk V0 (w.heap.size + 1 + 1 + 1 + 1) #[.int .i64 0, .int .i64 0] 34 := by rw [← hX]; exact bR1
              replace bR2 : Bk V0 (w.heap.size + 1 + 1 + 1 + 1 + 1) #[.int .i64 0, .int .i64 0] 34 := by rw [← hX]; exact bR2
              replace bX : Bk V0 (gX) #[.int .i64 xn, .int .i64 xd] 34 := by rw [← hX]; exact bX
              replace bY : Bk V0 (gY) #[.int .i64 yn, .int .i64 yd] 34 := by rw [← hX]; exact bY
              have hb : Below WbY.heap.size WbY V0 := by rw [← hX]; exact (Below.refl _ _).drew
              clear hX
              replace HB := Lib.hid (bel_end HB.out hb)
              clear hb
              have hS := HSp.out _ bX bY
              refine wpAnyH_take (i := 0) (oi := { dst := some 107, op := Go.Op.load 34 (Go.Operand.tmp 15), type := 34, pos := "l12_bearings.go:84", after := #[], guard := none }) (v := ?_) rfl (by kernel_rfl) (by kernel_rfl) (by kernel_rfl) (fun _ _ _ h => h) (Or.inl ⟨by rfl, ?_⟩) hS ?_
              rotate_left
              · (intro w hSw; have hSw := (HSd.out w).1 hSw; go_split_ands; go_simp) <;> with_reducible rfl
              clear hS
              try simp only [Act.put, List.setIfInBounds_toArray, List.set_cons_zero, List.set_cons_succ]
              have hS := HSp.out _ bX bY
              refine wpAnyH_take (i := 1) (oi := { dst := some 108, op := Go.Op.load 34 (Go.Operand.tmp 17), type := 34, pos := "l12_bearings.go:84", after := #[{ on := 2, ground := Go.Ground.gcOnly Go.Departure.lateStores }], guard := none }) (v := ?_) rfl (by kernel_rfl) (by kernel_rfl) (by kernel_rfl) (fun _ _ _ h => h) (Or.inl ⟨by rfl, ?_⟩) hS ?_
              rotate_left
              · (intro w hSw; have hSw := (HSd.out w).1 hSw; go_split_ands; go_simp) <;> with_reducible rfl
              clear hS
              try simp only [Act.put, List.setIfInBounds_toArray, List.set_cons_zero, List.set_cons_succ]
              refine wpAnyH_ready (rs := [2]) (by kernel_rfl) (by simp) ?_
              refine AllReadyH.cons (o := { dst := none, op := Go.Op.store 34 (Go.Operand.tmp 8) (Go.Operand.tmp 107), type := 0, pos := "l12_bearings.go:84", after := #[{ on := 0, ground := Go.Ground.data }, { on := 0, ground := Go.Ground.phase }, { on := 1, ground := Go.Ground.textOnly Go.Departure.lateStores }], guard := none }) rfl (fun Kn hK => ?_) AllReadyH.nil
              have bR1_0 := bR1.cell 0 rfl
              have bR1_1 := bR1.cell 1 rfl
              have bR1_f0 := bR1.frozen 0
              have bR1_f1 := bR1.frozen 1
              have bR1_l := bR1.lt
              go_simp
              clear bR1_0 bR1_f0 bR1_1 bR1_f1 bR1_l
              generalize hX : World.setCell _ _ _ = V1
              have hb : Below w.heap.size w V1 := by rw [← hX]; exact ((HB.out.setCell (p := ⟨w.heap.size + 1 + 1 + 1 + 1, 0, none⟩) (by first | omega | (dsimp only; omega)) _).setCell (p := ⟨w.heap.size + 1 + 1 + 1 + 1, 1, none⟩) (by first | omega | (dsimp only; omega)) _)
              replace bR2 : Bk V1 (w.heap.size + 1 + 1 + 1 + 1 + 1) #[.int .i64 0, .int .i64 0] 34 := by rw [← hX]; exact (Bk.other (Bk.other bR2 (by omega) 0 _) (by omega) 1 _)
              replace bX : Bk V1 (gX) #[.int .i64 xn, .int .i64 xd] 34 := by rw [← hX]; exact (Bk.other (Bk.other bX (by omega) 0 _) (by omega) 1 _)
              replace bY : Bk V1 (gY) #[.int .i64 yn, .int .i64 yd] 34 := by rw [← hX]; exact (Bk.other (Bk.other bY (by omega) 0 _) (by omega) 1 _)
              replace bR1 : Bk V1 (w.heap.size + 1 + 1 + 1 + 1) #[.int .i64 xn, .int .i64 xd] 34 := by rw [← hX]; exact (Bk.set (Bk.set bR1 0 _ rfl) 1 _ rfl)
              clear hX
              replace HB := Lib.hid hb
              clear hb
              refine hK.out _ _ (HSp.out _ bX bY) (fun _ => ?_)
              clear hK Kn
              refine wpAnyH_ready (rs := [3]) (by kernel_rfl) (by simp) ?_
              refine AllReadyH.cons (o := { dst := none, op := Go.Op.store 34 (Go.Operand.tmp 9) (Go.Operand.tmp 108), type := 0, pos := "l12_bearings.go:84", after := #[{ on := 1, ground := Go.Ground.data }, { on := 2, ground := Go.Ground.chain }, { on := 0, ground := Go.Ground.phase }, { on := 1, ground := Go.Ground.phase }, { on := 2, ground := Go.Ground.phase }], guard := none }) rfl (fun Kn hK => ?_) AllReadyH.nil
              have bR2_0 := bR2.cell 0 rfl
              have bR2_1 := bR2.cell 1 rfl
              have bR2_f0 := bR2.frozen 0
              have bR2_f1 := bR2.frozen 1
              have bR2_l := bR2.lt
              go_simp
              clear bR2_0 bR2_f0 bR2_1 bR2_f1 bR2_l
              generalize hX : World.setCell _ _ _ = V2
              have hb : Below w.heap.size w V2 := by rw [← hX]; exact ((HB.out.setCell (p := ⟨w.heap.size + 1 + 1 + 1 + 1 + 1, 0, none⟩) (by first | omega | (dsimp only; omega)) _).setCell (p := ⟨w.heap.size + 1 + 1 + 1 + 1 + 1, 1, none⟩) (by first | omega | (dsimp only; omega)) _)
              replace bR1 : Bk V2 (w.heap.size + 1 + 1 + 1 + 1) #[.int .i64 xn, .int .i64 xd] 34 := by rw [← hX]; exact (Bk.other (Bk.other bR1 (by omega) 0 _) (by omega) 1 _)
              replace bX : Bk V2 (gX) #[.int .i64 xn, .int .i64 xd] 34 := by rw [← hX]; exact (Bk.other (Bk.other bX (by omega) 0 _) (by omega) 1 _)
              replace bY : Bk V2 (gY) #[.int .i64 yn, .int .i64 yd] 34 := by rw [← hX]; exact (Bk.other (Bk.other bY (by omega) 0 _) (by omega) 1 _)
              replace bR2 : Bk V2 (w.heap.size + 1 + 1 + 1 + 1 + 1) #[.int .i64 yn, .int .i64 yd] 34 := by rw [← hX]; exact (Bk.set (Bk.set bR2 0 _ rfl) 1 _ rfl)
              clear hX
              replace HB := Lib.hid hb
              clear hb
              refine hK.out _ _ (HSp.out _ bX bY) (fun _ => ?_)
              clear hK Kn
              have hS := HSp.out _ bX bY
              refine wpAnyH_take (i := 4) (oi := { dst := some 10, op := Go.Op.assign (Go.Operand.const (Go.Value.int Go.IntKind.i64 0)), type := 2, pos := "l12_bearings.go:84", after := #[{ on := 3, ground := Go.Ground.chain }, { on := 0, ground := Go.Ground.phase }, { on := 1, ground := Go.Ground.phase }, { on := 2, ground := Go.Ground.phase }, { on := 3, ground := Go.Ground.phase }], guard := none }) (v := ?_) rfl (by kernel_rfl) (by kernel_rfl) (by kernel_rfl) (fun _ _ _ h => h) (Or.inl ⟨by rfl, ?_⟩) hS ?_
              rotate_left
              · (intro w hSw; have hSw := (HSd.out w).1 hSw; go_split_ands; go_simp) <;> with_reducible rfl
              clear hS
              try simp only [Act.put, List.setIfInBounds_toArray, List.set_cons_zero, List.set_cons_succ]
              refine wpAnyH_done (by kernel_rfl) ?_ _
              have c0 := bR1.cell 0 rfl
              have c1 := bR1.cell 1 rfl
              have c2 := bR2.cell 0 rfl
              have c3 := bR2.cell 1 rfl
              repeat (first | go_step | go_skip)
              exact bodyPost_ret (v := .tuple #[.agg #[.int .i64 xn, .int .i64 xd], .agg #[.int .i64 yn, .int .i64 yd], .int .i64 0]) (by simp [results, Try.results23, go_sem, c0, c1, c2, c3]) rfl ⟨ret5e HT.out, HB.out⟩

theorem scf_any (w : World) (px py ux uy qx qy vx vy : Int) : Calls Try.prog 23 #[.agg #[.int .i64 px, .int .i64 py], .agg #[.int .i64 ux, .int .i64 uy], .agg #[.int .i64 qx, .int .i64 qy], .agg #[.int .i64 vx, .int .i64 vy]] w fun e w' => e = .returned (.tuple #[.agg #[.int .i64 (cfT px py ux uy qx qy vx vy).1, .int .i64 (cfT px py ux uy qx qy vx vy).2.1], .agg #[.int .i64 (cfT px py ux uy qx qy vx vy).2.2.1, .int .i64 (cfT px py ux uy qx qy vx vy).2.2.2.1], .int .i64 (cfT px py ux uy qx qy vx vy).2.2.2.2]) ∧ Below w.heap.size w w' := by
  cases hok : cfB px py ux uy qx qy vx vy
  · exact scf_no w px py ux uy qx qy vx vy hok
  · exact scf_ok w px py ux uy qx qy vx vy hok
end Go.Proofs.Ytkjpjhklnaehbaa
