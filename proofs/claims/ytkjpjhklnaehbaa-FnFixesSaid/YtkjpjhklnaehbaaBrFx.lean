/- The walk of the law FnFixes over drawn data: it returns true and writes nothing that was there. -/
import Derived.Test.YtkjpjhklnaehbaaBrT
import Derived.Test.YtkjpjhklnaehbaaBrW
import Derived.Deep.RegionHeld3
import Derived.Deep.DeepCutAuto
import Derived.Deep.DrawnRows
import Derived.Deep.RegionWith
import Derived.Test.YtkjpjhklnaehbaaBrH
namespace Go.Proofs.Ytkjpjhklnaehbaa
open Go.ChangeShapes Go.WideShapes Go.ChangeAt Go.RowKit Go.Shelf Num
set_option linter.unusedVariables false
set_option linter.unusedSimpArgs false

set_option maxRecDepth 100000 in
set_option maxHeartbeats 8000000 in
theorem lfxs (a0 : Option Addr) (len0 cap0 : Nat) (z0 : List Int) (w : World) (w0 : IsRow .u8 w a0 len0 cap0 z0) :
    Calls Try.prog 13 #[.slice a0 len0 cap0] w fun e w' => e = .returned (.bool true) ∧ Below w.heap.size w w' := by
  obtain ⟨hlen, hcode⟩ := Code8.of_row w0
  obtain ⟨zs, hzs⟩ : ∃ zs, z0.take len0 = zs := ⟨_, rfl⟩
  rw [hzs] at hlen hcode
  subst hlen
  clear hzs w0
  have HC := Lib.hid hcode
  clear hcode
  have HB := Lib.hid (Below.refl w.heap.size w)
  by_cases hbig : 4096 < zs.length
  · have hd : decide ((4096 : Int) < (zs.length : Int)) = true := by simp; omega
    go_enter Try.func13, Try.ntmps13
    go_wp2_with (go_at_call 38; refine (big_any _ _ _ _).mono ?_; rw [hd]; rintro e w' ⟨rfl, rfl⟩)
    go_ret
    exact ⟨rfl, Below.refl _ _⟩
  · have hd : decide ((4096 : Int) < (zs.length : Int)) = false := by simp; omega
    go_enter Try.func13, Try.ntmps13
    go_wp2_with (go_at_call 38; refine (big_any _ _ _ _).mono ?_; rw [hd]; rintro e w' ⟨rfl, rfl⟩)
    clear hd
    refine (dcf_any _ _ _ zs ((HC.out.below HB.out (Nat.le_refl _)).more HB.out.size)).mono ?_
    rintro e w1 ⟨px, py, ux, uy, qx, qy, vx, vy, rfl, hb⟩
    replace HB := Lib.hid (bel_end HB.out hb)
    clear hb
    have on1 := fun h => cfT_on (px := px) (py := py) (ux := ux) (uy := uy) (qx := qx) (qy := qy) (vx := vx) (vy := vy) h
    have on2 := fun h => cfT_on (px := qx) (py := qy) (ux := vx) (uy := vy) (qx := px) (qy := py) (vx := ux) (vy := uy) h
    have sw := cfT_swap px py ux uy qx qy vx vy
    obtain ⟨⟨p, q, r, t, c⟩, hT⟩ : ∃ qq, cfT px py ux uy qx qy vx vy = qq := ⟨_, rfl⟩
    rw [hT] at sw on1
    rw [sw] at on2
    dsimp only at on1 on2
    have K1S : Hid (∀ W : World, Calls Try.prog 23 #[.agg #[.int .i64 px, .int .i64 py], .agg #[.int .i64 ux, .int .i64 uy], .agg #[.int .i64 qx, .int .i64 qy], .agg #[.int .i64 vx, .int .i64 vy]] W fun e w' => e = .returned (.tuple #[.agg #[.int .i64 p, .int .i64 q], .agg #[.int .i64 r, .int .i64 t], .int .i64 c]) ∧ Below W.heap.size W w') := Lib.hid (fun W => by have := scf_any W px py ux uy qx qy vx vy; rwa [hT] at this)
    have K1I : Hid (∀ W : World, Calls Try.prog 24 #[.agg #[.int .i64 px, .int .i64 py], .agg #[.int .i64 ux, .int .i64 uy], .agg #[.int .i64 qx, .int .i64 qy], .agg #[.int .i64 vx, .int .i64 vy]] W fun e w' => e = .returned (.tuple #[.agg #[.int .i64 p, .int .i64 q], .agg #[.int .i64 r, .int .i64 t], .int .i64 c]) ∧ Below W.heap.size W w') := Lib.hid (fun W => by have := icf_any W px py ux uy qx qy vx vy; rwa [hT] at this)
    have K2 : Hid (∀ W : World, Calls Try.prog 24 #[.agg #[.int .i64 qx, .int .i64 qy], .agg #[.int .i64 vx, .int .i64 vy], .agg #[.int .i64 px, .int .i64 py], .agg #[.int .i64 ux, .int .i64 uy]] W fun e w' => e = .returned (.tuple #[.agg #[.int .i64 p, .int .i64 q], .agg #[.int .i64 r, .int .i64 t], .int .i64 c]) ∧ Below W.heap.size W w') := Lib.hid (fun W => by have := icf_any W qx qy vx vy px py ux uy; rwa [sw] at this)
    have O1 := Lib.hid on1
    have O2 := Lib.hid on2
    clear hT sw on1 on2
    go_upto_region 4 with fail
    generalize hW : World.alloc _ _ = wl1
    have hb : Below w1.heap.size w1 wl1 := by rw [← hW]; exact (by repeat (first | exact Below.refl _ _ | (refine Below.alloc ?_ (by simp <;> omega) _) | (refine Below.setCell ?_ (by simp <;> omega) _) | (refine Below.drew ?_) | (refine bel_drewN ?_ _)))
    obtain ⟨gP, hg0⟩ : ∃ g, g = w1.heap.size := ⟨_, rfl⟩
    have bP : Bk wl1 gP #[.int .i64 px, .int .i64 py] 25 := by rw [← hW, hg0]; repeat (first | (refine Bk.new' ?_; (simp; done)) | refine Bk.alloc ?_ _)
    obtain ⟨gU, hg1⟩ : ∃ g, g = w1.heap.size + 1 := ⟨_, rfl⟩
    have bU : Bk wl1 gU #[.int .i64 ux, .int .i64 uy] 25 := by rw [← hW, hg1]; repeat (first | (refine Bk.new' ?_; (simp; done)) | refine Bk.alloc ?_ _)
    obtain ⟨gQ, hg2⟩ : ∃ g, g = w1.heap.size + 1 + 1 := ⟨_, rfl⟩
    have bQ : Bk wl1 gQ #[.int .i64 qx, .int .i64 qy] 25 := by rw [← hW, hg2]; repeat (first | (refine Bk.new' ?_; (simp; done)) | refine Bk.alloc ?_ _)
    obtain ⟨gV, hg3⟩ : ∃ g, g = w1.heap.size + 1 + 1 + 1 := ⟨_, rfl⟩
    have bV : Bk wl1 gV #[.int .i64 vx, .int .i64 vy] 25 := by rw [← hW, hg3]; repeat (first | (refine Bk.new' ?_; (simp; done)) | refine Bk.alloc ?_ _)
    try rw [← hg3]
    try rw [← hg2]
    try rw [← hg1]
    try rw [← hg0]
    clear hW hg0 hg1 hg2 hg3
    replace HB := Lib.hid (bel_end HB.out hb)
    clear hb
    have bP_0 := bP.cell 0 rfl
    have bP_1 := bP.cell 1 rfl
    have bP_l := bP.lt
    have bU_0 := bU.cell 0 rfl
    have bU_1 := bU.cell 1 rfl
    have bU_l := bU.lt
    have bQ_0 := bQ.cell 0 rfl
    have bQ_1 := bQ.cell 1 rfl
    have bQ_l := bQ.lt
    have bV_0 := bV.cell 0 rfl
    have bV_1 := bV.cell 1 rfl
    have bV_l := bV.lt
    go_wp2_with fail
    refine (K1I.out _).mono ?_
    rintro e w2 ⟨rfl, hb⟩
    replace bP := bP.on hb
    replace bU := bU.on hb
    replace bQ := bQ.on hb
    replace bV := bV.on hb
    replace HB := Lib.hid (bel_end HB.out hb)
    clear hb
    clear bP_0 bP_1 bP_l bU_0 bU_1 bU_l bQ_0 bQ_1 bQ_l bV_0 bV_1 bV_l
    have bP_0 := bP.cell 0 rfl
    have bP_1 := bP.cell 1 rfl
    have bP_l := bP.lt
    have bU_0 := bU.cell 0 rfl
    have bU_1 := bU.cell 1 rfl
    have bU_l := bU.lt
    have bQ_0 := bQ.cell 0 rfl
    have bQ_1 := bQ.cell 1 rfl
    have bQ_l := bQ.lt
    have bV_0 := bV.cell 0 rfl
    have bV_1 := bV.cell 1 rfl
    have bV_l := bV.lt
    go_upto_region 5 with fail
    clear bP_0 bP_1 bP_l bU_0 bU_1 bU_l bQ_0 bQ_1 bQ_l bV_0 bV_1 bV_l
    generalize hW : World.alloc _ _ = wl2
    have hb : Below w2.heap.size w2 wl2 := by rw [← hW]; exact (by repeat (first | exact Below.refl _ _ | (refine Below.alloc ?_ (by simp <;> omega) _) | (refine Below.setCell ?_ (by simp <;> omega) _) | (refine Below.drew ?_) | (refine bel_drewN ?_ _)))
    obtain ⟨gX0, hg0⟩ : ∃ g, g = w2.heap.size := ⟨_, rfl⟩
    have bX0 : Bk wl2 gX0 #[.int .i64 p, .int .i64 q] 34 := by rw [← hW, hg0]; repeat (first | (refine Bk.new' ?_; (simp; done)) | refine Bk.alloc ?_ _)
    obtain ⟨gY0, hg1⟩ : ∃ g, g = w2.heap.size + 1 := ⟨_, rfl⟩
    have bY0 : Bk wl2 gY0 #[.int .i64 r, .int .i64 t] 34 := by rw [← hW, hg1]; repeat (first | (refine Bk.new' ?_; (simp; done)) | refine Bk.alloc ?_ _)
    try rw [← hg1]
    try rw [← hg0]
    clear hW hg0 hg1
    replace bP := bP.on hb
    replace bU := bU.on hb
    replace bQ := bQ.on hb
    replace bV := bV.on hb
    replace HB := Lib.hid (bel_end HB.out hb)
    clear hb
    have bP_0 := bP.cell 0 rfl
    have bP_1 := bP.cell 1 rfl
    have bP_l := bP.lt
    have bU_0 := bU.cell 0 rfl
    have bU_1 := bU.cell 1 rfl
    have bU_l := bU.lt
    have bQ_0 := bQ.cell 0 rfl
    have bQ_1 := bQ.cell 1 rfl
    have bQ_l := bQ.lt
    have bV_0 := bV.cell 0 rfl
    have bV_1 := bV.cell 1 rfl
    have bV_l := bV.lt
    have bX0_0 := bX0.cell 0 rfl
    have bX0_1 := bX0.cell 1 rfl
    have bX0_l := bX0.lt
    have bY0_0 := bY0.cell 0 rfl
    have bY0_1 := bY0.cell 1 rfl
    have bY0_l := bY0.lt
    go_wp2_with fail
    refine (K1S.out _).mono ?_
    rintro e w3 ⟨rfl, hb⟩
    replace bP := bP.on hb
    replace bU := bU.on hb
    replace bQ := bQ.on hb
    replace bV := bV.on hb
    replace bX0 := bX0.on hb
    replace bY0 := bY0.on hb
    replace HB := Lib.hid (bel_end HB.out hb)
    clear hb
    clear bP_0 bP_1 bP_l bU_0 bU_1 bU_l bQ_0 bQ_1 bQ_l bV_0 bV_1 bV_l bX0_0 bX0_1 bX0_l bY0_0 bY0_1 bY0_l
    have bP_0 := bP.cell 0 rfl
    have bP_1 := bP.cell 1 rfl
    have bP_l := bP.lt
    have bU_0 := bU.cell 0 rfl
    have bU_1 := bU.cell 1 rfl
    have bU_l := bU.lt
    have bQ_0 := bQ.cell 0 rfl
    have bQ_1 := bQ.cell 1 rfl
    have bQ_l := bQ.lt
    have bV_0 := bV.cell 0 rfl
    have bV_1 := bV.cell 1 rfl
    have bV_l := bV.lt
    have bX0_0 := bX0.cell 0 rfl
    have bX0_1 := bX0.cell 1 rfl
    have bX0_l := bX0.lt
    have bY0_0 := bY0.cell 0 rfl
    have bY0_1 := bY0.cell 1 rfl
    have bY0_l := bY0.lt
    go_upto_region 6 with fail
    clear bP_0 bP_1 bP_l bU_0 bU_1 bU_l bQ_0 bQ_1 bQ_l bV_0 bV_1 bV_l bX0_0 bX0_1 bX0_l bY0_0 bY0_1 bY0_l
    generalize hW : World.alloc _ _ = wl3
    have hb : Below w3.heap.size w3 wl3 := by rw [← hW]; exact (by repeat (first | exact Below.refl _ _ | (refine Below.alloc ?_ (by simp <;> omega) _) | (refine Below.setCell ?_ (by simp <;> omega) _) | (refine Below.drew ?_) | (refine bel_drewN ?_ _)))
    obtain ⟨gX1, hg0⟩ : ∃ g, g = w3.heap.size := ⟨_, rfl⟩
    have bX1 : Bk wl3 gX1 #[.int .i64 p, .int .i64 q] 34 := by rw [← hW, hg0]; repeat (first | (refine Bk.new' ?_; (simp; done)) | refine Bk.alloc ?_ _)
    obtain ⟨gY1, hg1⟩ : ∃ g, g = w3.heap.size + 1 := ⟨_, rfl⟩
    have bY1 : Bk wl3 gY1 #[.int .i64 r, .int .i64 t] 34 := by rw [← hW, hg1]; repeat (first | (refine Bk.new' ?_; (simp; done)) | refine Bk.alloc ?_ _)
    try rw [← hg1]
    try rw [← hg0]
    clear hW hg0 hg1
    replace bP := bP.on hb
    replace bU := bU.on hb
    replace bQ := bQ.on hb
    replace bV := bV.on hb
    replace bX0 := bX0.on hb
    replace bY0 := bY0.on hb
    replace HB := Lib.hid (bel_end HB.out hb)
    clear hb
    have bP_0 := bP.cell 0 rfl
    have bP_1 := bP.cell 1 rfl
    have bP_l := bP.lt
    have bU_0 := bU.cell 0 rfl
    have bU_1 := bU.cell 1 rfl
    have bU_l := bU.lt
    have bQ_0 := bQ.cell 0 rfl
    have bQ_1 := bQ.cell 1 rfl
    have bQ_l := bQ.lt
    have bV_0 := bV.cell 0 rfl
    have bV_1 := bV.cell 1 rfl
    have bV_l := bV.lt
    have bX0_0 := bX0.cell 0 rfl
    have bX0_1 := bX0.cell 1 rfl
    have bX0_l := bX0.lt
    have bY0_0 := bY0.cell 0 rfl
    have bY0_1 := bY0.cell 1 rfl
    have bY0_l := bY0.lt
    have bX1_0 := bX1.cell 0 rfl
    have bX1_1 := bX1.cell 1 rfl
    have bX1_l := bX1.lt
    have bY1_0 := bY1.cell 0 rfl
    have bY1_1 := bY1.cell 1 rfl
    have bY1_l := bY1.lt
    go_wp2_with fail
    refine (K2.out _).mono ?_
    rintro e w4 ⟨rfl, hb⟩
    replace bP := bP.on hb
    replace bU := bU.on hb
    replace bQ := bQ.on hb
    replace bV := bV.on hb
    replace bX0 := bX0.on hb
    replace bY0 := bY0.on hb
    replace bX1 := bX1.on hb
    replace bY1 := bY1.on hb
    replace HB := Lib.hid (bel_end HB.out hb)
    clear hb
    clear bP_0 bP_1 bP_l bU_0 bU_1 bU_l bQ_0 bQ_1 bQ_l bV_0 bV_1 bV_l bX0_0 bX0_1 bX0_l bY0_0 bY0_1 bY0_l bX1_0 bX1_1 bX1_l bY1_0 bY1_1 bY1_l
    have bP_0 := bP.cell 0 rfl
    have bP_1 := bP.cell 1 rfl
    have bP_l := bP.lt
    have bU_0 := bU.cell 0 rfl
    have bU_1 := bU.cell 1 rfl
    have bU_l := bU.lt
    have bQ_0 := bQ.cell 0 rfl
    have bQ_1 := bQ.cell 1 rfl
    have bQ_l := bQ.lt
    have bV_0 := bV.cell 0 rfl
    have bV_1 := bV.cell 1 rfl
    have bV_l := bV.lt
    have bX0_0 := bX0.cell 0 rfl
    have bX0_1 := bX0.cell 1 rfl
    have bX0_l := bX0.lt
    have bY0_0 := bY0.cell 0 rfl
    have bY0_1 := bY0.cell 1 rfl
    have bY0_l := bY0.lt
    have bX1_0 := bX1.cell 0 rfl
    have bX1_1 := bX1.cell 1 rfl
    have bX1_l := bX1.lt
    have bY1_0 := bY1.cell 0 rfl
    have bY1_1 := bY1.cell 1 rfl
    have bY1_l := bY1.lt
    go_upto_region 7 with fail
    clear bP_0 bP_1 bP_l bU_0 bU_1 bU_l bQ_0 bQ_1 bQ_l bV_0 bV_1 bV_l bX0_0 bX0_1 bX0_l bY0_0 bY0_1 bY0_l bX1_0 bX1_1 bX1_l bY1_0 bY1_1 bY1_l
    generalize hW : World.alloc _ _ = wl4
    have hb : Below w4.heap.size w4 wl4 := by rw [← hW]; exact (by repeat (first | exact Below.refl _ _ | (refine Below.alloc ?_ (by simp <;> omega) _) | (refine Below.setCell ?_ (by simp <;> omega) _) | (refine Below.drew ?_) | (refine bel_drewN ?_ _)))
    obtain ⟨gX2, hg0⟩ : ∃ g, g = w4.heap.size := ⟨_, rfl⟩
    have bX2 : Bk wl4 gX2 #[.int .i64 p, .int .i64 q] 34 := by rw [← hW, hg0]; repeat (first | (refine Bk.new' ?_; (simp; done)) | refine Bk.alloc ?_ _)
    obtain ⟨gY2, hg1⟩ : ∃ g, g = w4.heap.size + 1 := ⟨_, rfl⟩
    have bY2 : Bk wl4 gY2 #[.int .i64 r, .int .i64 t] 34 := by rw [← hW, hg1]; repeat (first | (refine Bk.new' ?_; (simp; done)) | refine Bk.alloc ?_ _)
    try rw [← hg1]
    try rw [← hg0]
    clear hW hg0 hg1
    replace bP := bP.on hb
    replace bU := bU.on hb
    replace bQ := bQ.on hb
    replace bV := bV.on hb
    replace bX0 := bX0.on hb
    replace bY0 := bY0.on hb
    replace bX1 := bX1.on hb
    replace bY1 := bY1.on hb
    replace HB := Lib.hid (bel_end HB.out hb)
    clear hb
    have bP_0 := bP.cell 0 rfl
    have bP_1 := bP.cell 1 rfl
    have bP_l := bP.lt
    have bU_0 := bU.cell 0 rfl
    have bU_1 := bU.cell 1 rfl
    have bU_l := bU.lt
    have bQ_0 := bQ.cell 0 rfl
    have bQ_1 := bQ.cell 1 rfl
    have bQ_l := bQ.lt
    have bV_0 := bV.cell 0 rfl
    have bV_1 := bV.cell 1 rfl
    have bV_l := bV.lt
    have bX0_0 := bX0.cell 0 rfl
    have bX0_1 := bX0.cell 1 rfl
    have bX0_l := bX0.lt
    have bY0_0 := bY0.cell 0 rfl
    have bY0_1 := bY0.cell 1 rfl
    have bY0_l := bY0.lt
    have bX1_0 := bX1.cell 0 rfl
    have bX1_1 := bX1.cell 1 rfl
    have bX1_l := bX1.lt
    have bY1_0 := bY1.cell 0 rfl
    have bY1_1 := bY1.cell 1 rfl
    have bY1_l := bY1.lt
    have bX2_0 := bX2.cell 0 rfl
    have bX2_1 := bX2.cell 1 rfl
    have bX2_l := bX2.lt
    have bY2_0 := bY2.cell 0 rfl
    have bY2_1 := bY2.cell 1 rfl
    have bY2_l := bY2.lt
    go_upto_region 9 with fail
    clear bP_0 bP_1 bP_l bU_0 bU_1 bU_l bQ_0 bQ_1 bQ_l bV_0 bV_1 bV_l bX0_0 bX0_1 bX0_l bY0_0 bY0_1 bY0_l bX1_0 bX1_1 bX1_l bY1_0 bY1_1 bY1_l bX2_0 bX2_1 bX2_l bY2_0 bY2_1 bY2_l
    by_cases h0 : c = 0
    case neg =>
      have h1 : (c != 0) = true := by simpa using h0
      clear h0
      have bP_0 := bP.cell 0 rfl
      have bP_1 := bP.cell 1 rfl
      have bP_l := bP.lt
      have bU_0 := bU.cell 0 rfl
      have bU_1 := bU.cell 1 rfl
      have bU_l := bU.lt
      have bQ_0 := bQ.cell 0 rfl
      have bQ_1 := bQ.cell 1 rfl
      have bQ_l := bQ.lt
      have bV_0 := bV.cell 0 rfl
      have bV_1 := bV.cell 1 rfl
      have bV_l := bV.lt
      have bX0_0 := bX0.cell 0 rfl
      have bX0_1 := bX0.cell 1 rfl
      have bX0_l := bX0.lt
      have bY0_0 := bY0.cell 0 rfl
      have bY0_1 := bY0.cell 1 rfl
      have bY0_l := bY0.lt
      have bX1_0 := bX1.cell 0 rfl
      have bX1_1 := bX1.cell 1 rfl
      have bX1_l := bX1.lt
      have bY1_0 := bY1.cell 0 rfl
      have bY1_1 := bY1.cell 1 rfl
      have bY1_l := bY1.lt
      have bX2_0 := bX2.cell 0 rfl
      have bX2_1 := bX2.cell 1 rfl
      have bX2_l := bX2.lt
      have bY2_0 := bY2.cell 0 rfl
      have bY2_1 := bY2.cell 1 rfl
      have bY2_l := bY2.lt
      go_wp2
      go_ret
      exact ⟨rfl, HB.out⟩
    case pos =>
      obtain ⟨Af1, af1⟩ : ∃ qq, IntKind.wrap .i64 (r * q) = qq := ⟨_, rfl⟩
      obtain ⟨Af2, af2⟩ : ∃ qq, IntKind.wrap .i64 (py * q) = qq := ⟨_, rfl⟩
      obtain ⟨Af3, af3⟩ : ∃ qq, IntKind.wrap .i64 (Af2 * t) = qq := ⟨_, rfl⟩
      obtain ⟨Af4, af4⟩ : ∃ qq, IntKind.wrap .i64 (Af1 - Af3) = qq := ⟨_, rfl⟩
      obtain ⟨Af5, af5⟩ : ∃ qq, IntKind.wrap .i64 (ux * Af4) = qq := ⟨_, rfl⟩
      obtain ⟨Bf1, bf1⟩ : ∃ qq, IntKind.wrap .i64 (p * t) = qq := ⟨_, rfl⟩
      obtain ⟨Bf2, bf2⟩ : ∃ qq, IntKind.wrap .i64 (px * q) = qq := ⟨_, rfl⟩
      obtain ⟨Bf3, bf3⟩ : ∃ qq, IntKind.wrap .i64 (Bf2 * t) = qq := ⟨_, rfl⟩
      obtain ⟨Bf4, bf4⟩ : ∃ qq, IntKind.wrap .i64 (Bf1 - Bf3) = qq := ⟨_, rfl⟩
      obtain ⟨Bf5, bf5⟩ : ∃ qq, IntKind.wrap .i64 (uy * Bf4) = qq := ⟨_, rfl⟩
      have zf : IntKind.wrap .i64 (Af5 - Bf5) = 0 := on_line (O1.out h0) af1 af2 af3 af4 af5 bf1 bf2 bf3 bf4 bf5
      obtain ⟨Ag2, ag2⟩ : ∃ qq, IntKind.wrap .i64 (qy * q) = qq := ⟨_, rfl⟩
      obtain ⟨Ag3, ag3⟩ : ∃ qq, IntKind.wrap .i64 (Ag2 * t) = qq := ⟨_, rfl⟩
      obtain ⟨Ag4, ag4⟩ : ∃ qq, IntKind.wrap .i64 (Af1 - Ag3) = qq := ⟨_, rfl⟩
      obtain ⟨Ag5, ag5⟩ : ∃ qq, IntKind.wrap .i64 (vx * Ag4) = qq := ⟨_, rfl⟩
      obtain ⟨Bg2, bg2⟩ : ∃ qq, IntKind.wrap .i64 (qx * q) = qq := ⟨_, rfl⟩
      obtain ⟨Bg3, bg3⟩ : ∃ qq, IntKind.wrap .i64 (Bg2 * t) = qq := ⟨_, rfl⟩
      obtain ⟨Bg4, bg4⟩ : ∃ qq, IntKind.wrap .i64 (Bf1 - Bg3) = qq := ⟨_, rfl⟩
      obtain ⟨Bg5, bg5⟩ : ∃ qq, IntKind.wrap .i64 (vy * Bg4) = qq := ⟨_, rfl⟩
      have zg : IntKind.wrap .i64 (Ag5 - Bg5) = 0 := on_line (O2.out h0) af1 ag2 ag3 ag4 ag5 bf1 bg2 bg3 bg4 bg5
      subst h0
      clear O1 O2
      have bP_0 := bP.cell 0 rfl
      have bP_1 := bP.cell 1 rfl
      have bP_l := bP.lt
      have bU_0 := bU.cell 0 rfl
      have bU_1 := bU.cell 1 rfl
      have bU_l := bU.lt
      have bQ_0 := bQ.cell 0 rfl
      have bQ_1 := bQ.cell 1 rfl
      have bQ_l := bQ.lt
      have bV_0 := bV.cell 0 rfl
      have bV_1 := bV.cell 1 rfl
      have bV_l := bV.lt
      have bX0_0 := bX0.cell 0 rfl
      have bX0_1 := bX0.cell 1 rfl
      have bX0_l := bX0.lt
      have bY0_0 := bY0.cell 0 rfl
      have bY0_1 := bY0.cell 1 rfl
      have bY0_l := bY0.lt
      have bX1_0 := bX1.cell 0 rfl
      have bX1_1 := bX1.cell 1 rfl
      have bX1_l := bX1.lt
      have bY1_0 := bY1.cell 0 rfl
      have bY1_1 := bY1.cell 1 rfl
      have bY1_l := bY1.lt
      have bX2_0 := bX2.cell 0 rfl
      have bX2_1 := bX2.cell 1 rfl
      have bX2_l := bX2.lt
      have bY2_0 := bY2.cell 0 rfl
      have bY2_1 := bY2.cell 1 rfl
      have bY2_l := bY2.lt
      go_wp2
      go_ret
      exact ⟨rfl, HB.out⟩
end Go.Proofs.Ytkjpjhklnaehbaa
