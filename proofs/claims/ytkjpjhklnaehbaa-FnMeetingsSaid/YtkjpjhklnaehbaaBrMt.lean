/- The walk of the law FnMeetings over drawn data: it returns true and writes nothing that was there. -/
import Derived.Test.YtkjpjhklnaehbaaBrT
import Derived.Test.YtkjpjhklnaehbaaBrW
import Derived.Deep.RegionHeld3
import Derived.Deep.DeepCutAuto
import Derived.Deep.DrawnRows
import Derived.Deep.RegionWith
import Derived.Test.YtkjpjhklnaehbaaBrG
import Derived.Test.YtkjpjhklnaehbaaDice
import Derived.Test.YtkjpjhklnaehbaaBrY
namespace Go.Proofs.Ytkjpjhklnaehbaa
open Go.ChangeShapes Go.WideShapes Go.ChangeAt Go.RowKit Go.Shelf Num
set_option linter.unusedVariables false
set_option linter.unusedSimpArgs false

set_option maxRecDepth 100000 in
set_option maxHeartbeats 8000000 in
theorem lmtg (a0 : Option Addr) (len0 cap0 : Nat) (z0 : List Int) (w : World) (w0 : IsRow .u8 w a0 len0 cap0 z0) :
    Calls Try.prog 15 #[.slice a0 len0 cap0] w fun e w' => e = .returned (.bool true) ∧ Below w.heap.size w w' := by
  obtain ⟨hlen, hcode⟩ := Code8.of_row w0
  obtain ⟨zs, hzs⟩ : ∃ zs, z0.take len0 = zs := ⟨_, rfl⟩
  rw [hzs] at hlen hcode
  subst hlen
  clear hzs w0
  have HC := Lib.hid hcode
  clear hcode
  have HB := Lib.hid (Below.refl w.heap.size w)
  by_cases hbig : 4096 < zs.length
  · have hd : decide ((4096 : Int) < (zs.length : Int)) = true := by simp; omega
    go_enter Try.func15, Try.ntmps15
    go_wp2_with (go_at_call 38; refine (big_any _ _ _ _).mono ?_; rw [hd]; rintro e w' ⟨rfl, rfl⟩)
    go_ret
    exact ⟨rfl, Below.refl _ _⟩
  · have hd : decide ((4096 : Int) < (zs.length : Int)) = false := by simp; omega
    go_enter Try.func15, Try.ntmps15
    go_wp2_with (go_at_call 38; refine (big_any _ _ _ _).mono ?_; rw [hd]; rintro e w' ⟨rfl, rfl⟩)
    clear hd
    refine (dcs_any _ _ _ zs ((HC.out.below HB.out (Nat.le_refl _)).more HB.out.size)).mono ?_
    rintro e w1 ⟨a1, a2, a3, a4, b1, b2, b3, b4, rfl, hb⟩
    replace HB := Lib.hid (bel_end HB.out hb)
    clear hb
    obtain ⟨⟨p, q, c⟩, hT⟩ : ∃ qq, csR a1 a2 a3 a4 b1 b2 b3 b4 = qq := ⟨_, rfl⟩
    obtain ⟨⟨u, v, e0⟩, hU⟩ : ∃ qq, ctR a1 a2 a3 a4 b1 b2 b3 b4 = qq := ⟨_, rfl⟩
    obtain ⟨Z, hZ⟩ : ∃ qq, dmB a1 a2 a3 a4 b1 b2 b3 b4 = qq := ⟨_, rfl⟩
    obtain ⟨E, hE⟩ : ∃ qq, dmC a1 a2 a3 a4 b1 b2 b3 b4 = qq := ⟨_, rfl⟩
    have F1 : Hid (c = 0 → Z = (p == 0)) := Lib.hid (fun h => by rw [← hZ]; exact meet_zero (by rw [hT, h]))
    have F2 : Hid (e0 = 0 → 0 ≤ u) := Lib.hid (fun h => ct_nn (by rw [hU, h]))
    have F3 : Hid (∀ d x1 y1 x2 y2 : Int, c = 0 → poT a1 a2 a3 a4 d = (x1, y1, 0) → poT b1 b2 b3 b4 d = (x2, y2, 0) → _) := Lib.hid (fun d x1 y1 x2 y2 h h1 h2 => meet_least (p := p) (q := q) (by rw [hT, h]) h1 h2)
    have K1S : Hid (∀ W : World, Calls Try.prog 32 #[.agg #[.int .i64 a1, .int .i64 a2, .int .i64 a3, .int .i64 a4], .agg #[.int .i64 b1, .int .i64 b2, .int .i64 b3, .int .i64 b4]] W fun e w' => e = .returned (.tuple #[.agg #[.int .i64 p, .int .i64 q], .int .i64 c]) ∧ Below W.heap.size W w') := Lib.hid (fun W => by have := scs_any W a1 a2 a3 a4 b1 b2 b3 b4; rwa [hT] at this)
    have K1I : Hid (∀ W : World, Calls Try.prog 33 #[.agg #[.int .i64 a1, .int .i64 a2, .int .i64 a3, .int .i64 a4], .agg #[.int .i64 b1, .int .i64 b2, .int .i64 b3, .int .i64 b4]] W fun e w' => e = .returned (.tuple #[.agg #[.int .i64 p, .int .i64 q], .int .i64 c]) ∧ Below W.heap.size W w') := Lib.hid (fun W => by have := ics_any W a1 a2 a3 a4 b1 b2 b3 b4; rwa [hT] at this)
    have K2S : Hid (∀ W : World, Calls Try.prog 30 #[.agg #[.int .i64 a1, .int .i64 a2, .int .i64 a3, .int .i64 a4], .agg #[.int .i64 b1, .int .i64 b2, .int .i64 b3, .int .i64 b4]] W fun e w' => e = .returned (.tuple #[.agg #[.int .i64 u, .int .i64 v], .int .i64 e0]) ∧ Below W.heap.size W w') := Lib.hid (fun W => by have := sct_any W a1 a2 a3 a4 b1 b2 b3 b4; rwa [hU] at this)
    have K2I : Hid (∀ W : World, Calls Try.prog 31 #[.agg #[.int .i64 a1, .int .i64 a2, .int .i64 a3, .int .i64 a4], .agg #[.int .i64 b1, .int .i64 b2, .int .i64 b3, .int .i64 b4]] W fun e w' => e = .returned (.tuple #[.agg #[.int .i64 u, .int .i64 v], .int .i64 e0]) ∧ Below W.heap.size W w') := Lib.hid (fun W => by have := ict_any W a1 a2 a3 a4 b1 b2 b3 b4; rwa [hU] at this)
    have K3S : Hid (∀ W : World, Calls Try.prog 36 #[.agg #[.int .i64 a1, .int .i64 a2, .int .i64 a3, .int .i64 a4], .agg #[.int .i64 b1, .int .i64 b2, .int .i64 b3, .int .i64 b4]] W fun e w' => e = .returned (.tuple #[.bool Z, .int .i64 E]) ∧ Below W.heap.size W w') := Lib.hid (fun W => by have := sdm_any W a1 a2 a3 a4 b1 b2 b3 b4; rwa [hZ, hE] at this)
    have K3I : Hid (∀ W : World, Calls Try.prog 37 #[.agg #[.int .i64 a1, .int .i64 a2, .int .i64 a3, .int .i64 a4], .agg #[.int .i64 b1, .int .i64 b2, .int .i64 b3, .int .i64 b4]] W fun e w' => e = .returned (.tuple #[.bool Z, .int .i64 E]) ∧ Below W.heap.size W w') := Lib.hid (fun W => by have := idm_any W a1 a2 a3 a4 b1 b2 b3 b4; rwa [hZ, hE] at this)
    clear hT hU hZ hE
    go_upto_region 4 with fail
    generalize hW : World.alloc _ _ = wl1
    have hb : Below w1.heap.size w1 wl1 := by rw [← hW]; exact (by repeat (first | exact Below.refl _ _ | (refine Below.alloc ?_ (by simp <;> omega) _) | (refine Below.setCell ?_ (by simp <;> omega) _) | (refine Below.drew ?_) | (refine bel_drewN ?_ _)))
    obtain ⟨gA, hg0⟩ : ∃ g, g = w1.heap.size := ⟨_, rfl⟩
    have bA : Bk wl1 gA #[.int .i64 a1, .int .i64 a2, .int .i64 a3, .int .i64 a4] 44 := by rw [← hW, hg0]; repeat (first | (refine Bk.new' ?_; (simp; done)) | refine Bk.alloc ?_ _)
    obtain ⟨gB, hg1⟩ : ∃ g, g = w1.heap.size + 1 := ⟨_, rfl⟩
    have bB : Bk wl1 gB #[.int .i64 b1, .int .i64 b2, .int .i64 b3, .int .i64 b4] 44 := by rw [← hW, hg1]; repeat (first | (refine Bk.new' ?_; (simp; done)) | refine Bk.alloc ?_ _)
    try rw [← hg1]
    try rw [← hg0]
    clear hW hg0 hg1
    replace HB := Lib.hid (bel_end HB.out hb)
    clear hb
    have bA_0 := bA.cell 0 rfl
    have bA_1 := bA.cell 1 rfl
    have bA_2 := bA.cell 2 rfl
    have bA_3 := bA.cell 3 rfl
    have bA_l := bA.lt
    have bB_0 := bB.cell 0 rfl
    have bB_1 := bB.cell 1 rfl
    have bB_2 := bB.cell 2 rfl
    have bB_3 := bB.cell 3 rfl
    have bB_l := bB.lt
    go_wp2_with fail
    refine (K1I.out _).mono ?_
    rintro e w2 ⟨rfl, hb⟩
    replace bA := bA.on hb
    replace bB := bB.on hb
    replace HB := Lib.hid (bel_end HB.out hb)
    clear hb
    clear bA_0 bA_1 bA_2 bA_3 bA_l bB_0 bB_1 bB_2 bB_3 bB_l
    have bA_0 := bA.cell 0 rfl
    have bA_1 := bA.cell 1 rfl
    have bA_2 := bA.cell 2 rfl
    have bA_3 := bA.cell 3 rfl
    have bA_l := bA.lt
    have bB_0 := bB.cell 0 rfl
    have bB_1 := bB.cell 1 rfl
    have bB_2 := bB.cell 2 rfl
    have bB_3 := bB.cell 3 rfl
    have bB_l := bB.lt
    go_upto_region 5 with fail
    clear bA_0 bA_1 bA_2 bA_3 bA_l bB_0 bB_1 bB_2 bB_3 bB_l
    generalize hW : World.alloc _ _ = wl2
    have hb : Below w2.heap.size w2 wl2 := by rw [← hW]; exact (by repeat (first | exact Below.refl _ _ | (refine Below.alloc ?_ (by simp <;> omega) _) | (refine Below.setCell ?_ (by simp <;> omega) _) | (refine Below.drew ?_) | (refine bel_drewN ?_ _)))
    obtain ⟨gR0, hg0⟩ : ∃ g, g = w2.heap.size := ⟨_, rfl⟩
    have bR0 : Bk wl2 gR0 #[.int .i64 p, .int .i64 q] 34 := by rw [← hW, hg0]; repeat (first | (refine Bk.new' ?_; (simp; done)) | refine Bk.alloc ?_ _)
    try rw [← hg0]
    clear hW hg0
    replace bA := bA.on hb
    replace bB := bB.on hb
    replace HB := Lib.hid (bel_end HB.out hb)
    clear hb
    have bA_0 := bA.cell 0 rfl
    have bA_1 := bA.cell 1 rfl
    have bA_2 := bA.cell 2 rfl
    have bA_3 := bA.cell 3 rfl
    have bA_l := bA.lt
    have bB_0 := bB.cell 0 rfl
    have bB_1 := bB.cell 1 rfl
    have bB_2 := bB.cell 2 rfl
    have bB_3 := bB.cell 3 rfl
    have bB_l := bB.lt
    have bR0_0 := bR0.cell 0 rfl
    have bR0_1 := bR0.cell 1 rfl
    have bR0_l := bR0.lt
    go_wp2_with fail
    refine (K1S.out _).mono ?_
    rintro e w3 ⟨rfl, hb⟩
    replace bA := bA.on hb
    replace bB := bB.on hb
    replace bR0 := bR0.on hb
    replace HB := Lib.hid (bel_end HB.out hb)
    clear hb
    clear bA_0 bA_1 bA_2 bA_3 bA_l bB_0 bB_1 bB_2 bB_3 bB_l bR0_0 bR0_1 bR0_l
    have bA_0 := bA.cell 0 rfl
    have bA_1 := bA.cell 1 rfl
    have bA_2 := bA.cell 2 rfl
    have bA_3 := bA.cell 3 rfl
    have bA_l := bA.lt
    have bB_0 := bB.cell 0 rfl
    have bB_1 := bB.cell 1 rfl
    have bB_2 := bB.cell 2 rfl
    have bB_3 := bB.cell 3 rfl
    have bB_l := bB.lt
    have bR0_0 := bR0.cell 0 rfl
    have bR0_1 := bR0.cell 1 rfl
    have bR0_l := bR0.lt
    go_upto_region 6 with fail
    clear bA_0 bA_1 bA_2 bA_3 bA_l bB_0 bB_1 bB_2 bB_3 bB_l bR0_0 bR0_1 bR0_l
    generalize hW : World.alloc _ _ = wl3
    have hb : Below w3.heap.size w3 wl3 := by rw [← hW]; exact (by repeat (first | exact Below.refl _ _ | (refine Below.alloc ?_ (by simp <;> omega) _) | (refine Below.setCell ?_ (by simp <;> omega) _) | (refine Below.drew ?_) | (refine bel_drewN ?_ _)))
    obtain ⟨gR1, hg0⟩ : ∃ g, g = w3.heap.size := ⟨_, rfl⟩
    have bR1 : Bk wl3 gR1 #[.int .i64 p, .int .i64 q] 34 := by rw [← hW, hg0]; repeat (first | (refine Bk.new' ?_; (simp; done)) | refine Bk.alloc ?_ _)
    try rw [← hg0]
    clear hW hg0
    replace bA := bA.on hb
    replace bB := bB.on hb
    replace bR0 := bR0.on hb
    replace HB := Lib.hid (bel_end HB.out hb)
    clear hb
    have bA_0 := bA.cell 0 rfl
    have bA_1 := bA.cell 1 rfl
    have bA_2 := bA.cell 2 rfl
    have bA_3 := bA.cell 3 rfl
    have bA_l := bA.lt
    have bB_0 := bB.cell 0 rfl
    have bB_1 := bB.cell 1 rfl
    have bB_2 := bB.cell 2 rfl
    have bB_3 := bB.cell 3 rfl
    have bB_l := bB.lt
    have bR0_0 := bR0.cell 0 rfl
    have bR0_1 := bR0.cell 1 rfl
    have bR0_l := bR0.lt
    have bR1_0 := bR1.cell 0 rfl
    have bR1_1 := bR1.cell 1 rfl
    have bR1_l := bR1.lt
    go_wp2_with fail
    refine (K2I.out _).mono ?_
    rintro e w4 ⟨rfl, hb⟩
    replace bA := bA.on hb
    replace bB := bB.on hb
    replace bR0 := bR0.on hb
    replace bR1 := bR1.on hb
    replace HB := Lib.hid (bel_end HB.out hb)
    clear hb
    clear bA_0 bA_1 bA_2 bA_3 bA_l bB_0 bB_1 bB_2 bB_3 bB_l bR0_0 bR0_1 bR0_l bR1_0 bR1_1 bR1_l
    have bA_0 := bA.cell 0 rfl
    have bA_1 := bA.cell 1 rfl
    have bA_2 := bA.cell 2 rfl
    have bA_3 := bA.cell 3 rfl
    have bA_l := bA.lt
    have bB_0 := bB.cell 0 rfl
    have bB_1 := bB.cell 1 rfl
    have bB_2 := bB.cell 2 rfl
    have bB_3 := bB.cell 3 rfl
    have bB_l := bB.lt
    have bR0_0 := bR0.cell 0 rfl
    have bR0_1 := bR0.cell 1 rfl
    have bR0_l := bR0.lt
    have bR1_0 := bR1.cell 0 rfl
    have bR1_1 := bR1.cell 1 rfl
    have bR1_l := bR1.lt
    go_upto_region 7 with fail
    clear bA_0 bA_1 bA_2 bA_3 bA_l bB_0 bB_1 bB_2 bB_3 bB_l bR0_0 bR0_1 bR0_l bR1_0 bR1_1 bR1_l
    generalize hW : World.alloc _ _ = wl4
    have hb : Below w4.heap.size w4 wl4 := by rw [← hW]; exact (by repeat (first | exact Below.refl _ _ | (refine Below.alloc ?_ (by simp <;> omega) _) | (refine Below.setCell ?_ (by simp <;> omega) _) | (refine Below.drew ?_) | (refine bel_drewN ?_ _)))
    obtain ⟨gR2, hg0⟩ : ∃ g, g = w4.heap.size := ⟨_, rfl⟩
    have bR2 : Bk wl4 gR2 #[.int .i64 u, .int .i64 v] 34 := by rw [← hW, hg0]; repeat (first | (refine Bk.new' ?_; (simp; done)) | refine Bk.alloc ?_ _)
    try rw [← hg0]
    clear hW hg0
    replace bA := bA.on hb
    replace bB := bB.on hb
    replace bR0 := bR0.on hb
    replace bR1 := bR1.on hb
    replace HB := Lib.hid (bel_end HB.out hb)
    clear hb
    have bA_0 := bA.cell 0 rfl
    have bA_1 := bA.cell 1 rfl
    have bA_2 := bA.cell 2 rfl
    have bA_3 := bA.cell 3 rfl
    have bA_l := bA.lt
    have bB_0 := bB.cell 0 rfl
    have bB_1 := bB.cell 1 rfl
    have bB_2 := bB.cell 2 rfl
    have bB_3 := bB.cell 3 rfl
    have bB_l := bB.lt
    have bR0_0 := bR0.cell 0 rfl
    have bR0_1 := bR0.cell 1 rfl
    have bR0_l := bR0.lt
    have bR1_0 := bR1.cell 0 rfl
    have bR1_1 := bR1.cell 1 rfl
    have bR1_l := bR1.lt
    have bR2_0 := bR2.cell 0 rfl
    have bR2_1 := bR2.cell 1 rfl
    have bR2_l := bR2.lt
    go_wp2_with fail
    refine (K2S.out _).mono ?_
    rintro e w5 ⟨rfl, hb⟩
    replace bA := bA.on hb
    replace bB := bB.on hb
    replace bR0 := bR0.on hb
    replace bR1 := bR1.on hb
    replace bR2 := bR2.on hb
    replace HB := Lib.hid (bel_end HB.out hb)
    clear hb
    clear bA_0 bA_1 bA_2 bA_3 bA_l bB_0 bB_1 bB_2 bB_3 bB_l bR0_0 bR0_1 bR0_l bR1_0 bR1_1 bR1_l bR2_0 bR2_1 bR2_l
    have bA_0 := bA.cell 0 rfl
    have bA_1 := bA.cell 1 rfl
    have bA_2 := bA.cell 2 rfl
    have bA_3 := bA.cell 3 rfl
    have bA_l := bA.lt
    have bB_0 := bB.cell 0 rfl
    have bB_1 := bB.cell 1 rfl
    have bB_2 := bB.cell 2 rfl
    have bB_3 := bB.cell 3 rfl
    have bB_l := bB.lt
    have bR0_0 := bR0.cell 0 rfl
    have bR0_1 := bR0.cell 1 rfl
    have bR0_l := bR0.lt
    have bR1_0 := bR1.cell 0 rfl
    have bR1_1 := bR1.cell 1 rfl
    have bR1_l := bR1.lt
    have bR2_0 := bR2.cell 0 rfl
    have bR2_1 := bR2.cell 1 rfl
    have bR2_l := bR2.lt
    go_upto_region 8 with fail
    clear bA_0 bA_1 bA_2 bA_3 bA_l bB_0 bB_1 bB_2 bB_3 bB_l bR0_0 bR0_1 bR0_l bR1_0 bR1_1 bR1_l bR2_0 bR2_1 bR2_l
    generalize hW : World.alloc _ _ = wl5
    have hb : Below w5.heap.size w5 wl5 := by rw [← hW]; exact (by repeat (first | exact Below.refl _ _ | (refine Below.alloc ?_ (by simp <;> omega) _) | (refine Below.setCell ?_ (by simp <;> omega) _) | (refine Below.drew ?_) | (refine bel_drewN ?_ _)))
    obtain ⟨gR3, hg0⟩ : ∃ g, g = w5.heap.size := ⟨_, rfl⟩
    have bR3 : Bk wl5 gR3 #[.int .i64 u, .int .i64 v] 34 := by rw [← hW, hg0]; repeat (first | (refine Bk.new' ?_; (simp; done)) | refine Bk.alloc ?_ _)
    try rw [← hg0]
    clear hW hg0
    replace bA := bA.on hb
    replace bB := bB.on hb
    replace bR0 := bR0.on hb
    replace bR1 := bR1.on hb
    replace bR2 := bR2.on hb
    replace HB := Lib.hid (bel_end HB.out hb)
    clear hb
    have bA_0 := bA.cell 0 rfl
    have bA_1 := bA.cell 1 rfl
    have bA_2 := bA.cell 2 rfl
    have bA_3 := bA.cell 3 rfl
    have bA_l := bA.lt
    have bB_0 := bB.cell 0 rfl
    have bB_1 := bB.cell 1 rfl
    have bB_2 := bB.cell 2 rfl
    have bB_3 := bB.cell 3 rfl
    have bB_l := bB.lt
    have bR0_0 := bR0.cell 0 rfl
    have bR0_1 := bR0.cell 1 rfl
    have bR0_l := bR0.lt
    have bR1_0 := bR1.cell 0 rfl
    have bR1_1 := bR1.cell 1 rfl
    have bR1_l := bR1.lt
    have bR2_0 := bR2.cell 0 rfl
    have bR2_1 := bR2.cell 1 rfl
    have bR2_l := bR2.lt
    have bR3_0 := bR3.cell 0 rfl
    have bR3_1 := bR3.cell 1 rfl
    have bR3_l := bR3.lt
    go_wp2_with fail
    refine (K3I.out _).mono ?_
    rintro e w6 ⟨rfl, hb⟩
    replace bA := bA.on hb
    replace bB := bB.on hb
    replace bR0 := bR0.on hb
    replace bR1 := bR1.on hb
    replace bR2 := bR2.on hb
    replace bR3 := bR3.on hb
    replace HB := Lib.hid (bel_end HB.out hb)
    clear hb
    clear bA_0 bA_1 bA_2 bA_3 bA_l bB_0 bB_1 bB_2 bB_3 bB_l bR0_0 bR0_1 bR0_l bR1_0 bR1_1 bR1_l bR2_0 bR2_1 bR2_l bR3_0 bR3_1 bR3_l
    have bA_0 := bA.cell 0 rfl
    have bA_1 := bA.cell 1 rfl
    have bA_2 := bA.cell 2 rfl
    have bA_3 := bA.cell 3 rfl
    have bA_l := bA.lt
    have bB_0 := bB.cell 0 rfl
    have bB_1 := bB.cell 1 rfl
    have bB_2 := bB.cell 2 rfl
    have bB_3 := bB.cell 3 rfl
    have bB_l := bB.lt
    have bR0_0 := bR0.cell 0 rfl
    have bR0_1 := bR0.cell 1 rfl
    have bR0_l := bR0.lt
    have bR1_0 := bR1.cell 0 rfl
    have bR1_1 := bR1.cell 1 rfl
    have bR1_l := bR1.lt
    have bR2_0 := bR2.cell 0 rfl
    have bR2_1 := bR2.cell 1 rfl
    have bR2_l := bR2.lt
    have bR3_0 := bR3.cell 0 rfl
    have bR3_1 := bR3.cell 1 rfl
    have bR3_l := bR3.lt
    go_wp2_with fail
    refine (K3S.out _).mono ?_
    rintro e w7 ⟨rfl, hb⟩
    replace bA := bA.on hb
    replace bB := bB.on hb
    replace bR0 := bR0.on hb
    replace bR1 := bR1.on hb
    replace bR2 := bR2.on hb
    replace bR3 := bR3.on hb
    replace HB := Lib.hid (bel_end HB.out hb)
    clear hb
    clear bA_0 bA_1 bA_2 bA_3 bA_l bB_0 bB_1 bB_2 bB_3 bB_l bR0_0 bR0_1 bR0_l bR1_0 bR1_1 bR1_l bR2_0 bR2_1 bR2_l bR3_0 bR3_1 bR3_l
    have bA_0 := bA.cell 0 rfl
    have bA_1 := bA.cell 1 rfl
    have bA_2 := bA.cell 2 rfl
    have bA_3 := bA.cell 3 rfl
    have bA_l := bA.lt
    have bB_0 := bB.cell 0 rfl
    have bB_1 := bB.cell 1 rfl
    have bB_2 := bB.cell 2 rfl
    have bB_3 := bB.cell 3 rfl
    have bB_l := bB.lt
    have bR0_0 := bR0.cell 0 rfl
    have bR0_1 := bR0.cell 1 rfl
    have bR0_l := bR0.lt
    have bR1_0 := bR1.cell 0 rfl
    have bR1_1 := bR1.cell 1 rfl
    have bR1_l := bR1.lt
    have bR2_0 := bR2.cell 0 rfl
    have bR2_1 := bR2.cell 1 rfl
    have bR2_l := bR2.lt
    have bR3_0 := bR3.cell 0 rfl
    have bR3_1 := bR3.cell 1 rfl
    have bR3_l := bR3.lt
    go_upto_region 12 with fail
    clear bA_0 bA_1 bA_2 bA_3 bA_l bB_0 bB_1 bB_2 bB_3 bB_l bR0_0 bR0_1 bR0_l bR1_0 bR1_1 bR1_l bR2_0 bR2_1 bR2_l bR3_0 bR3_1 bR3_l
    by_cases h0 : c = 0
    case neg =>
      have h1 : (c != 0) = true := by simpa using h0
      clear h0
      have bA_0 := bA.cell 0 rfl
      have bA_1 := bA.cell 1 rfl
      have bA_2 := bA.cell 2 rfl
      have bA_3 := bA.cell 3 rfl
      have bA_l := bA.lt
      have bB_0 := bB.cell 0 rfl
      have bB_1 := bB.cell 1 rfl
      have bB_2 := bB.cell 2 rfl
      have bB_3 := bB.cell 3 rfl
      have bB_l := bB.lt
      have bR0_0 := bR0.cell 0 rfl
      have bR0_1 := bR0.cell 1 rfl
      have bR0_l := bR0.lt
      have bR1_0 := bR1.cell 0 rfl
      have bR1_1 := bR1.cell 1 rfl
      have bR1_l := bR1.lt
      have bR2_0 := bR2.cell 0 rfl
      have bR2_1 := bR2.cell 1 rfl
      have bR2_l := bR2.lt
      have bR3_0 := bR3.cell 0 rfl
      have bR3_1 := bR3.cell 1 rfl
      have bR3_l := bR3.lt
      go_wp2
      go_ret
      exact ⟨rfl, HB.out⟩
    case pos =>
      have f1 := F1.out h0
      subst f1
      have F4 := Lib.hid (fun d x1 y1 x2 y2 => F3.out d x1 y1 x2 y2 h0)
      subst h0
      clear F1 F3
      clear bR1 bR3
      by_cases he : e0 = 0
      case pos =>
        have f2 := F2.out he
        have f22 : decide (u < 0) = false := decide_eq_false (by omega)
        subst he
        clear F2
        have bA_0 := bA.cell 0 rfl
        have bA_1 := bA.cell 1 rfl
        have bA_2 := bA.cell 2 rfl
        have bA_3 := bA.cell 3 rfl
        have bA_l := bA.lt
        have bB_0 := bB.cell 0 rfl
        have bB_1 := bB.cell 1 rfl
        have bB_2 := bB.cell 2 rfl
        have bB_3 := bB.cell 3 rfl
        have bB_l := bB.lt
        have bR0_0 := bR0.cell 0 rfl
        have bR0_1 := bR0.cell 1 rfl
        have bR0_l := bR0.lt
        have bR2_0 := bR2.cell 0 rfl
        have bR2_1 := bR2.cell 1 rfl
        have bR2_l := bR2.lt
        go_wp2_with fail
        clear bA_0 bA_1 bA_2 bA_3 bA_l bB_0 bB_1 bB_2 bB_3 bB_l bR0_0 bR0_1 bR0_l bR2_0 bR2_1 bR2_l
        clear f22 f2
        refine (roll_any _ _ _ zs 1201 ((HC.out.below HB.out (Nat.le_refl _)).more HB.out.size)).mono ?_
        rintro e wr1 ⟨sd, rfl, hs1, hD, hb⟩
        have lt_bA : gA < sd := by have := bA.lt; omega
        have lt_bB : gB < sd := by have := bB.lt; omega
        have lt_bR0 : gR0 < sd := by have := bR0.lt; omega
        have lt_bR2 : gR2 < sd := by have := bR2.lt; omega
        have hwsd : w.heap.size ≤ sd := Nat.le_trans HB.out.size hs1
        replace bA := bA.on hb
        replace bB := bB.on hb
        replace bR0 := bR0.on hb
        replace bR2 := bR2.on hb
        replace HB := Lib.hid (bel_end HB.out hb)
        clear hb
        have bA_0 := bA.cell 0 rfl
        have bA_1 := bA.cell 1 rfl
        have bA_2 := bA.cell 2 rfl
        have bA_3 := bA.cell 3 rfl
        have bA_l := bA.lt
        have bB_0 := bB.cell 0 rfl
        have bB_1 := bB.cell 1 rfl
        have bB_2 := bB.cell 2 rfl
        have bB_3 := bB.cell 3 rfl
        have bB_l := bB.lt
        have bR0_0 := bR0.cell 0 rfl
        have bR0_1 := bR0.cell 1 rfl
        have bR0_l := bR0.lt
        have bR2_0 := bR2.cell 0 rfl
        have bR2_1 := bR2.cell 1 rfl
        have bR2_l := bR2.lt
        go_wp2_with fail
        refine (bel_any _ _ 50 (by omega) hD).mono ?_
        rintro e wr2 hTh
        clear bA_0 bA_1 bA_2 bA_3 bA_l bB_0 bB_1 bB_2 bB_3 bB_l bR0_0 bR0_1 bR0_l bR2_0 bR2_1 bR2_l
        obtain ⟨d, rfl, hd0, hd1, hdr⟩ : ∃ d, e = .returned (.int .i64 d) ∧ 0 ≤ d ∧ d < 50 ∧ wr1.grownBy wr2 (some sd) := by
          obtain ⟨d, h1, h2, h3, h4, h5⟩ := hTh
          exact ⟨d, h1, h2, by omega, h5⟩
        replace bA := bA.kept hdr (by simp; omega)
        clear lt_bA
        replace bB := bB.kept hdr (by simp; omega)
        clear lt_bB
        replace bR0 := bR0.kept hdr (by simp; omega)
        clear lt_bR0
        replace bR2 := bR2.kept hdr (by simp; omega)
        clear lt_bR2
        replace HB := Lib.hid (HB.out.trans (below_of_grown hdr hwsd HB.out.size))
        clear hdr hTh hD hs1 hwsd
        obtain ⟨⟨x1, y1, c1⟩, hP⟩ : ∃ qq, poT a1 a2 a3 a4 d = qq := ⟨_, rfl⟩
        obtain ⟨⟨x2, y2, c2⟩, hQ⟩ : ∃ qq, poT b1 b2 b3 b4 d = qq := ⟨_, rfl⟩
        have K7 : Hid (∀ W : World, Calls Try.prog 28 #[.agg #[.int .i64 a1, .int .i64 a2, .int .i64 a3, .int .i64 a4], .int .i64 d] W fun e w' => e = .returned (.tuple #[.agg #[.int .i64 x1, .int .i64 y1], .int .i64 c1]) ∧ Below W.heap.size W w') := Lib.hid (fun W => by have := ipo_any W a1 a2 a3 a4 d; rwa [hP] at this)
        have K8 : Hid (∀ W : World, Calls Try.prog 28 #[.agg #[.int .i64 b1, .int .i64 b2, .int .i64 b3, .int .i64 b4], .int .i64 d] W fun e w' => e = .returned (.tuple #[.agg #[.int .i64 x2, .int .i64 y2], .int .i64 c2]) ∧ Below W.heap.size W w') := Lib.hid (fun W => by have := ipo_any W b1 b2 b3 b4 d; rwa [hQ] at this)
        have F5 := Lib.hid (fun (h : c1 = 0) (g : c2 = 0) => F4.out d x1 y1 x2 y2 (by rw [hP, h]) (by rw [hQ, g]))
        clear F4 hP hQ
        have bA_0 := bA.cell 0 rfl
        have bA_1 := bA.cell 1 rfl
        have bA_2 := bA.cell 2 rfl
        have bA_3 := bA.cell 3 rfl
        have bA_l := bA.lt
        have bB_0 := bB.cell 0 rfl
        have bB_1 := bB.cell 1 rfl
        have bB_2 := bB.cell 2 rfl
        have bB_3 := bB.cell 3 rfl
        have bB_l := bB.lt
        have bR0_0 := bR0.cell 0 rfl
        have bR0_1 := bR0.cell 1 rfl
        have bR0_l := bR0.lt
        have bR2_0 := bR2.cell 0 rfl
        have bR2_1 := bR2.cell 1 rfl
        have bR2_l := bR2.lt
        go_wp2_with fail
        refine (K7.out _).mono ?_
        rintro e w8 ⟨rfl, hb⟩
        replace bA := bA.on hb
        replace bB := bB.on hb
        replace bR0 := bR0.on hb
        replace bR2 := bR2.on hb
        replace HB := Lib.hid (bel_end HB.out hb)
        clear hb
        clear bA_0 bA_1 bA_2 bA_3 bA_l bB_0 bB_1 bB_2 bB_3 bB_l bR0_0 bR0_1 bR0_l bR2_0 bR2_1 bR2_l
        have bA_0 := bA.cell 0 rfl
        have bA_1 := bA.cell 1 rfl
        have bA_2 := bA.cell 2 rfl
        have bA_3 := bA.cell 3 rfl
        have bA_l := bA.lt
        have bB_0 := bB.cell 0 rfl
        have bB_1 := bB.cell 1 rfl
        have bB_2 := bB.cell 2 rfl
        have bB_3 := bB.cell 3 rfl
        have bB_l := bB.lt
        have bR0_0 := bR0.cell 0 rfl
        have bR0_1 := bR0.cell 1 rfl
        have bR0_l := bR0.lt
        have bR2_0 := bR2.cell 0 rfl
        have bR2_1 := bR2.cell 1 rfl
        have bR2_l := bR2.lt
        go_upto_region 18 with fail
        clear bA_0 bA_1 bA_2 bA_3 bA_l bB_0 bB_1 bB_2 bB_3 bB_l bR0_0 bR0_1 bR0_l bR2_0 bR2_1 bR2_l
        generalize hW : World.alloc _ _ = wl6
        have hb : Below w8.heap.size w8 wl6 := by rw [← hW]; exact (by repeat (first | exact Below.refl _ _ | (refine Below.alloc ?_ (by simp <;> omega) _) | (refine Below.setCell ?_ (by simp <;> omega) _) | (refine Below.drew ?_) | (refine bel_drewN ?_ _)))
        obtain ⟨gQ1, hg0⟩ : ∃ g, g = w8.heap.size := ⟨_, rfl⟩
        have bQ1 : Bk wl6 gQ1 #[.int .i64 x1, .int .i64 y1] 25 := by rw [← hW, hg0]; repeat (first | (refine Bk.new' ?_; (simp; done)) | refine Bk.alloc ?_ _)
        try rw [← hg0]
        clear hW hg0
        replace bA := bA.on hb
        replace bB := bB.on hb
        replace bR0 := bR0.on hb
        replace bR2 := bR2.on hb
        replace HB := Lib.hid (bel_end HB.out hb)
        clear hb
        have bA_0 := bA.cell 0 rfl
        have bA_1 := bA.cell 1 rfl
        have bA_2 := bA.cell 2 rfl
        have bA_3 := bA.cell 3 rfl
        have bA_l := bA.lt
        have bB_0 := bB.cell 0 rfl
        have bB_1 := bB.cell 1 rfl
        have bB_2 := bB.cell 2 rfl
        have bB_3 := bB.cell 3 rfl
        have bB_l := bB.lt
        have bR0_0 := bR0.cell 0 rfl
        have bR0_1 := bR0.cell 1 rfl
        have bR0_l := bR0.lt
        have bR2_0 := bR2.cell 0 rfl
        have bR2_1 := bR2.cell 1 rfl
        have bR2_l := bR2.lt
        have bQ1_0 := bQ1.cell 0 rfl
        have bQ1_1 := bQ1.cell 1 rfl
        have bQ1_l := bQ1.lt
        go_wp2_with fail
        refine (K8.out _).mono ?_
        rintro e w9 ⟨rfl, hb⟩
        replace bA := bA.on hb
        replace bB := bB.on hb
        replace bR0 := bR0.on hb
        replace bR2 := bR2.on hb
        replace bQ1 := bQ1.on hb
        replace HB := Lib.hid (bel_end HB.out hb)
        clear hb
        clear bA_0 bA_1 bA_2 bA_3 bA_l bB_0 bB_1 bB_2 bB_3 bB_l bR0_0 bR0_1 bR0_l bR2_0 bR2_1 bR2_l bQ1_0 bQ1_1 bQ1_l
        have bA_0 := bA.cell 0 rfl
        have bA_1 := bA.cell 1 rfl
        have bA_2 := bA.cell 2 rfl
        have bA_3 := bA.cell 3 rfl
        have bA_l := bA.lt
        have bB_0 := bB.cell 0 rfl
        have bB_1 := bB.cell 1 rfl
        have bB_2 := bB.cell 2 rfl
        have bB_3 := bB.cell 3 rfl
        have bB_l := bB.lt
        have bR0_0 := bR0.cell 0 rfl
        have bR0_1 := bR0.cell 1 rfl
        have bR0_l := bR0.lt
        have bR2_0 := bR2.cell 0 rfl
        have bR2_1 := bR2.cell 1 rfl
        have bR2_l := bR2.lt
        have bQ1_0 := bQ1.cell 0 rfl
        have bQ1_1 := bQ1.cell 1 rfl
        have bQ1_l := bQ1.lt
        go_upto_region 19 with fail
        clear bA_0 bA_1 bA_2 bA_3 bA_l bB_0 bB_1 bB_2 bB_3 bB_l bR0_0 bR0_1 bR0_l bR2_0 bR2_1 bR2_l bQ1_0 bQ1_1 bQ1_l
        generalize hW : World.alloc _ _ = wl7
        have hb : Below w9.heap.size w9 wl7 := by rw [← hW]; exact (by repeat (first | exact Below.refl _ _ | (refine Below.alloc ?_ (by simp <;> omega) _) | (refine Below.setCell ?_ (by simp <;> omega) _) | (refine Below.drew ?_) | (refine bel_drewN ?_ _)))
        obtain ⟨gQ2, hg0⟩ : ∃ g, g = w9.heap.size := ⟨_, rfl⟩
        have bQ2 : Bk wl7 gQ2 #[.int .i64 x2, .int .i64 y2] 25 := by rw [← hW, hg0]; repeat (first | (refine Bk.new' ?_; (simp; done)) | refine Bk.alloc ?_ _)
        try rw [← hg0]
        clear hW hg0
        replace bA := bA.on hb
        replace bB := bB.on hb
        replace bR0 := bR0.on hb
        replace bR2 := bR2.on hb
        replace bQ1 := bQ1.on hb
        replace HB := Lib.hid (bel_end HB.out hb)
        clear hb
        by_cases h0 : c1 = 0
        case neg =>
          have h1 : (c1 != 0) = true := by simpa using h0
          clear h0
          have bA_0 := bA.cell 0 rfl
          have bA_1 := bA.cell 1 rfl
          have bA_2 := bA.cell 2 rfl
          have bA_3 := bA.cell 3 rfl
          have bA_l := bA.lt
          have bB_0 := bB.cell 0 rfl
          have bB_1 := bB.cell 1 rfl
          have bB_2 := bB.cell 2 rfl
          have bB_3 := bB.cell 3 rfl
          have bB_l := bB.lt
          have bR0_0 := bR0.cell 0 rfl
          have bR0_1 := bR0.cell 1 rfl
          have bR0_l := bR0.lt
          have bR2_0 := bR2.cell 0 rfl
          have bR2_1 := bR2.cell 1 rfl
          have bR2_l := bR2.lt
          have bQ1_0 := bQ1.cell 0 rfl
          have bQ1_1 := bQ1.cell 1 rfl
          have bQ1_l := bQ1.lt
          have bQ2_0 := bQ2.cell 0 rfl
          have bQ2_1 := bQ2.cell 1 rfl
          have bQ2_l := bQ2.lt
          go_wp2
          go_ret
          exact ⟨rfl, HB.out⟩
        case pos =>
          have F6 := Lib.hid (F5.out h0)
          subst h0
          clear F5
          by_cases h0 : c2 = 0
          case neg =>
            have h1 : (c2 != 0) = true := by simpa using h0
            clear h0
            have bA_0 := bA.cell 0 rfl
            have bA_1 := bA.cell 1 rfl
            have bA_2 := bA.cell 2 rfl
            have bA_3 := bA.cell 3 rfl
            have bA_l := bA.lt
            have bB_0 := bB.cell 0 rfl
            have bB_1 := bB.cell 1 rfl
            have bB_2 := bB.cell 2 rfl
            have bB_3 := bB.cell 3 rfl
            have bB_l := bB.lt
            have bR0_0 := bR0.cell 0 rfl
            have bR0_1 := bR0.cell 1 rfl
            have bR0_l := bR0.lt
            have bR2_0 := bR2.cell 0 rfl
            have bR2_1 := bR2.cell 1 rfl
            have bR2_l := bR2.lt
            have bQ1_0 := bQ1.cell 0 rfl
            have bQ1_1 := bQ1.cell 1 rfl
            have bQ1_l := bQ1.lt
            have bQ2_0 := bQ2.cell 0 rfl
            have bQ2_1 := bQ2.cell 1 rfl
            have bQ2_l := bQ2.lt
            go_wp2
            go_ret
            exact ⟨rfl, HB.out⟩
          case pos =>
            obtain ⟨f1, f2, f3⟩ := F6.out h0
            subst h0
            clear F6
            obtain ⟨D1, hD1⟩ : ∃ qq, x1 - x2 = qq := ⟨_, rfl⟩
            obtain ⟨D2, hD2⟩ : ∃ qq, y1 - y2 = qq := ⟨_, rfl⟩
            rw [hD1, hD2] at f1 f2
            have m1 := mul_abs (a := D1) (n := D1) (A := 200000) (N := 200000) (by omega) (by omega)
            have m2 := mul_abs (a := D2) (n := D2) (A := 200000) (N := 200000) (by omega) (by omega)
            obtain ⟨S1, hS1⟩ : ∃ qq, D1 * D1 = qq := ⟨_, rfl⟩
            obtain ⟨S2, hS2⟩ : ∃ qq, D2 * D2 = qq := ⟨_, rfl⟩
            rw [hS1, hS2] at f1
            rw [hS1] at m1
            rw [hS2] at m2
            obtain ⟨SS, hSS⟩ : ∃ qq, S1 + S2 = qq := ⟨_, rfl⟩
            rw [hSS] at f1
            have m3 := mul_abs (a := SS) (n := q) (A := 80000000000) (N := 8000000) (by omega) (by omega)
            obtain ⟨PP, hPP⟩ : ∃ qq, SS * q = qq := ⟨_, rfl⟩
            rw [hPP] at f1 m3
            have w1_ : IntKind.wrap .i64 (x1 - x2) = D1 := by rw [hD1]; exact IntWalk.i64_in _ (by omega)
            have w2_ : IntKind.wrap .i64 (y1 - y2) = D2 := by rw [hD2]; exact IntWalk.i64_in _ (by omega)
            have w3_ : IntKind.wrap .i64 (D1 * D1) = S1 := by rw [hS1]; exact IntWalk.i64_in _ (by omega)
            have w4_ : IntKind.wrap .i64 (D2 * D2) = S2 := by rw [hS2]; exact IntWalk.i64_in _ (by omega)
            have w5_ : IntKind.wrap .i64 (S1 + S2) = SS := by rw [hSS]; exact IntWalk.i64_in _ (by omega)
            have w6_ : IntKind.wrap .i64 (SS * q) = PP := by rw [hPP]; exact IntWalk.i64_in _ (by omega)
            clear hD1 hD2 hS1 hS2 hSS hPP m1 m2 m3 f2 f3
            have bA_0 := bA.cell 0 rfl
            have bA_1 := bA.cell 1 rfl
            have bA_2 := bA.cell 2 rfl
            have bA_3 := bA.cell 3 rfl
            have bA_l := bA.lt
            have bB_0 := bB.cell 0 rfl
            have bB_1 := bB.cell 1 rfl
            have bB_2 := bB.cell 2 rfl
            have bB_3 := bB.cell 3 rfl
            have bB_l := bB.lt
            have bR0_0 := bR0.cell 0 rfl
            have bR0_1 := bR0.cell 1 rfl
            have bR0_l := bR0.lt
            have bR2_0 := bR2.cell 0 rfl
            have bR2_1 := bR2.cell 1 rfl
            have bR2_l := bR2.lt
            have bQ1_0 := bQ1.cell 0 rfl
            have bQ1_1 := bQ1.cell 1 rfl
            have bQ1_l := bQ1.lt
            have bQ2_0 := bQ2.cell 0 rfl
            have bQ2_1 := bQ2.cell 1 rfl
            have bQ2_l := bQ2.lt
            go_wp2
            go_ret
            exact ⟨ret_bool (by first | exact decide_eq_true f1 | simp [f1]), HB.out⟩
      case neg =>
        have he2 : (e0 == 0) = false := by simpa using he
        clear he F2
        have bA_0 := bA.cell 0 rfl
        have bA_1 := bA.cell 1 rfl
        have bA_2 := bA.cell 2 rfl
        have bA_3 := bA.cell 3 rfl
        have bA_l := bA.lt
        have bB_0 := bB.cell 0 rfl
        have bB_1 := bB.cell 1 rfl
        have bB_2 := bB.cell 2 rfl
        have bB_3 := bB.cell 3 rfl
        have bB_l := bB.lt
        have bR0_0 := bR0.cell 0 rfl
        have bR0_1 := bR0.cell 1 rfl
        have bR0_l := bR0.lt
        have bR2_0 := bR2.cell 0 rfl
        have bR2_1 := bR2.cell 1 rfl
        have bR2_l := bR2.lt
        go_wp2_with fail
        clear bA_0 bA_1 bA_2 bA_3 bA_l bB_0 bB_1 bB_2 bB_3 bB_l bR0_0 bR0_1 bR0_l bR2_0 bR2_1 bR2_l
        clear he2
        refine (roll_any _ _ _ zs 1201 ((HC.out.below HB.out (Nat.le_refl _)).more HB.out.size)).mono ?_
        rintro e wr1 ⟨sd, rfl, hs1, hD, hb⟩
        have lt_bA : gA < sd := by have := bA.lt; omega
        have lt_bB : gB < sd := by have := bB.lt; omega
        have lt_bR0 : gR0 < sd := by have := bR0.lt; omega
        have lt_bR2 : gR2 < sd := by have := bR2.lt; omega
        have hwsd : w.heap.size ≤ sd := Nat.le_trans HB.out.size hs1
        replace bA := bA.on hb
        replace bB := bB.on hb
        replace bR0 := bR0.on hb
        replace bR2 := bR2.on hb
        replace HB := Lib.hid (bel_end HB.out hb)
        clear hb
        have bA_0 := bA.cell 0 rfl
        have bA_1 := bA.cell 1 rfl
        have bA_2 := bA.cell 2 rfl
        have bA_3 := bA.cell 3 rfl
        have bA_l := bA.lt
        have bB_0 := bB.cell 0 rfl
        have bB_1 := bB.cell 1 rfl
        have bB_2 := bB.cell 2 rfl
        have bB_3 := bB.cell 3 rfl
        have bB_l := bB.lt
        have bR0_0 := bR0.cell 0 rfl
        have bR0_1 := bR0.cell 1 rfl
        have bR0_l := bR0.lt
        have bR2_0 := bR2.cell 0 rfl
        have bR2_1 := bR2.cell 1 rfl
        have bR2_l := bR2.lt
        go_wp2_with fail
        refine (bel_any _ _ 50 (by omega) hD).mono ?_
        rintro e wr2 hTh
        clear bA_0 bA_1 bA_2 bA_3 bA_l bB_0 bB_1 bB_2 bB_3 bB_l bR0_0 bR0_1 bR0_l bR2_0 bR2_1 bR2_l
        obtain ⟨d, rfl, hd0, hd1, hdr⟩ : ∃ d, e = .returned (.int .i64 d) ∧ 0 ≤ d ∧ d < 50 ∧ wr1.grownBy wr2 (some sd) := by
          obtain ⟨d, h1, h2, h3, h4, h5⟩ := hTh
          exact ⟨d, h1, h2, by omega, h5⟩
        replace bA := bA.kept hdr (by simp; omega)
        clear lt_bA
        replace bB := bB.kept hdr (by simp; omega)
        clear lt_bB
        replace bR0 := bR0.kept hdr (by simp; omega)
        clear lt_bR0
        replace bR2 := bR2.kept hdr (by simp; omega)
        clear lt_bR2
        replace HB := Lib.hid (HB.out.trans (below_of_grown hdr hwsd HB.out.size))
        clear hdr hTh hD hs1 hwsd
        obtain ⟨⟨x1, y1, c1⟩, hP⟩ : ∃ qq, poT a1 a2 a3 a4 d = qq := ⟨_, rfl⟩
        obtain ⟨⟨x2, y2, c2⟩, hQ⟩ : ∃ qq, poT b1 b2 b3 b4 d = qq := ⟨_, rfl⟩
        have K7 : Hid (∀ W : World, Calls Try.prog 28 #[.agg #[.int .i64 a1, .int .i64 a2, .int .i64 a3, .int .i64 a4], .int .i64 d] W fun e w' => e = .returned (.tuple #[.agg #[.int .i64 x1, .int .i64 y1], .int .i64 c1]) ∧ Below W.heap.size W w') := Lib.hid (fun W => by have := ipo_any W a1 a2 a3 a4 d; rwa [hP] at this)
        have K8 : Hid (∀ W : World, Calls Try.prog 28 #[.agg #[.int .i64 b1, .int .i64 b2, .int .i64 b3, .int .i64 b4], .int .i64 d] W fun e w' => e = .returned (.tuple #[.agg #[.int .i64 x2, .int .i64 y2], .int .i64 c2]) ∧ Below W.heap.size W w') := Lib.hid (fun W => by have := ipo_any W b1 b2 b3 b4 d; rwa [hQ] at this)
        have F5 := Lib.hid (fun (h : c1 = 0) (g : c2 = 0) => F4.out d x1 y1 x2 y2 (by rw [hP, h]) (by rw [hQ, g]))
        clear F4 hP hQ
        have bA_0 := bA.cell 0 rfl
        have bA_1 := bA.cell 1 rfl
        have bA_2 := bA.cell 2 rfl
        have bA_3 := bA.cell 3 rfl
        have bA_l := bA.lt
        have bB_0 := bB.cell 0 rfl
        have bB_1 := bB.cell 1 rfl
        have bB_2 := bB.cell 2 rfl
        have bB_3 := bB.cell 3 rfl
        have bB_l := bB.lt
        have bR0_0 := bR0.cell 0 rfl
        have bR0_1 := bR0.cell 1 rfl
        have bR0_l := bR0.lt
        have bR2_0 := bR2.cell 0 rfl
        have bR2_1 := bR2.cell 1 rfl
        have bR2_l := bR2.lt
        go_wp2_with fail
        refine (K7.out _).mono ?_
        rintro e w8 ⟨rfl, hb⟩
        replace bA := bA.on hb
        replace bB := bB.on hb
        replace bR0 := bR0.on hb
        replace bR2 := bR2.on hb
        replace HB := Lib.hid (bel_end HB.out hb)
        clear hb
        clear bA_0 bA_1 bA_2 bA_3 bA_l bB_0 bB_1 bB_2 bB_3 bB_l bR0_0 bR0_1 bR0_l bR2_0 bR2_1 bR2_l
        have bA_0 := bA.cell 0 rfl
        have bA_1 := bA.cell 1 rfl
        have bA_2 := bA.cell 2 rfl
        have bA_3 := bA.cell 3 rfl
        have bA_l := bA.lt
        have bB_0 := bB.cell 0 rfl
        have bB_1 := bB.cell 1 rfl
        have bB_2 := bB.cell 2 rfl
        have bB_3 := bB.cell 3 rfl
        have bB_l := bB.lt
        have bR0_0 := bR0.cell 0 rfl
        have bR0_1 := bR0.cell 1 rfl
        have bR0_l := bR0.lt
        have bR2_0 := bR2.cell 0 rfl
        have bR2_1 := bR2.cell 1 rfl
        have bR2_l := bR2.lt
        go_upto_region 18 with fail
        clear bA_0 bA_1 bA_2 bA_3 bA_l bB_0 bB_1 bB_2 bB_3 bB_l bR0_0 bR0_1 bR0_l bR2_0 bR2_1 bR2_l
        generalize hW : World.alloc _ _ = wl6
        have hb : Below w8.heap.size w8 wl6 := by rw [← hW]; exact (by repeat (first | exact Below.refl _ _ | (refine Below.alloc ?_ (by simp <;> omega) _) | (refine Below.setCell ?_ (by simp <;> omega) _) | (refine Below.drew ?_) | (refine bel_drewN ?_ _)))
        obtain ⟨gQ1, hg0⟩ : ∃ g, g = w8.heap.size := ⟨_, rfl⟩
        have bQ1 : Bk wl6 gQ1 #[.int .i64 x1, .int .i64 y1] 25 := by rw [← hW, hg0]; repeat (first | (refine Bk.new' ?_; (simp; done)) | refine Bk.alloc ?_ _)
        try rw [← hg0]
        clear hW hg0
        replace bA := bA.on hb
        replace bB := bB.on hb
        replace bR0 := bR0.on hb
        replace bR2 := bR2.on hb
        replace HB := Lib.hid (bel_end HB.out hb)
        clear hb
        have bA_0 := bA.cell 0 rfl
        have bA_1 := bA.cell 1 rfl
        have bA_2 := bA.cell 2 rfl
        have bA_3 := bA.cell 3 rfl
        have bA_l := bA.lt
        have bB_0 := bB.cell 0 rfl
        have bB_1 := bB.cell 1 rfl
        have bB_2 := bB.cell 2 rfl
        have bB_3 := bB.cell 3 rfl
        have bB_l := bB.lt
        have bR0_0 := bR0.cell 0 rfl
        have bR0_1 := bR0.cell 1 rfl
        have bR0_l := bR0.lt
        have bR2_0 := bR2.cell 0 rfl
        have bR2_1 := bR2.cell 1 rfl
        have bR2_l := bR2.lt
        have bQ1_0 := bQ1.cell 0 rfl
        have bQ1_1 := bQ1.cell 1 rfl
        have bQ1_l := bQ1.lt
        go_wp2_with fail
        refine (K8.out _).mono ?_
        rintro e w9 ⟨rfl, hb⟩
        replace bA := bA.on hb
        replace bB := bB.on hb
        replace bR0 := bR0.on hb
        replace bR2 := bR2.on hb
        replace bQ1 := bQ1.on hb
        replace HB := Lib.hid (bel_end HB.out hb)
        clear hb
        clear bA_0 bA_1 bA_2 bA_3 bA_l bB_0 bB_1 bB_2 bB_3 bB_l bR0_0 bR0_1 bR0_l bR2_0 bR2_1 bR2_l bQ1_0 bQ1_1 bQ1_l
        have bA_0 := bA.cell 0 rfl
        have bA_1 := bA.cell 1 rfl
        have bA_2 := bA.cell 2 rfl
        have bA_3 := bA.cell 3 rfl
        have bA_l := bA.lt
        have bB_0 := bB.cell 0 rfl
        have bB_1 := bB.cell 1 rfl
        have bB_2 := bB.cell 2 rfl
        have bB_3 := bB.cell 3 rfl
        have bB_l := bB.lt
        have bR0_0 := bR0.cell 0 rfl
        have bR0_1 := bR0.cell 1 rfl
        have bR0_l := bR0.lt
        have bR2_0 := bR2.cell 0 rfl
        have bR2_1 := bR2.cell 1 rfl
        have bR2_l := bR2.lt
        have bQ1_0 := bQ1.cell 0 rfl
        have bQ1_1 := bQ1.cell 1 rfl
        have bQ1_l := bQ1.lt
        go_upto_region 19 with fail
        clear bA_0 bA_1 bA_2 bA_3 bA_l bB_0 bB_1 bB_2 bB_3 bB_l bR0_0 bR0_1 bR0_l bR2_0 bR2_1 bR2_l bQ1_0 bQ1_1 bQ1_l
        generalize hW : World.alloc _ _ = wl7
        have hb : Below w9.heap.size w9 wl7 := by rw [← hW]; exact (by repeat (first | exact Below.refl _ _ | (refine Below.alloc ?_ (by simp <;> omega) _) | (refine Below.setCell ?_ (by simp <;> omega) _) | (refine Below.drew ?_) | (refine bel_drewN ?_ _)))
        obtain ⟨gQ2, hg0⟩ : ∃ g, g = w9.heap.size := ⟨_, rfl⟩
        have bQ2 : Bk wl7 gQ2 #[.int .i64 x2, .int .i64 y2] 25 := by rw [← hW, hg0]; repeat (first | (refine Bk.new' ?_; (simp; done)) | refine Bk.alloc ?_ _)
        try rw [← hg0]
        clear hW hg0
        replace bA := bA.on hb
        replace bB := bB.on hb
        replace bR0 := bR0.on hb
        replace bR2 := bR2.on hb
        replace bQ1 := bQ1.on hb
        replace HB := Lib.hid (bel_end HB.out hb)
        clear hb
        by_cases h0 : c1 = 0
        case neg =>
          have h1 : (c1 != 0) = true := by simpa using h0
          clear h0
          have bA_0 := bA.cell 0 rfl
          have bA_1 := bA.cell 1 rfl
          have bA_2 := bA.cell 2 rfl
          have bA_3 := bA.cell 3 rfl
          have bA_l := bA.lt
          have bB_0 := bB.cell 0 rfl
          have bB_1 := bB.cell 1 rfl
          have bB_2 := bB.cell 2 rfl
          have bB_3 := bB.cell 3 rfl
          have bB_l := bB.lt
          have bR0_0 := bR0.cell 0 rfl
          have bR0_1 := bR0.cell 1 rfl
          have bR0_l := bR0.lt
          have bR2_0 := bR2.cell 0 rfl
          have bR2_1 := bR2.cell 1 rfl
          have bR2_l := bR2.lt
          have bQ1_0 := bQ1.cell 0 rfl
          have bQ1_1 := bQ1.cell 1 rfl
          have bQ1_l := bQ1.lt
          have bQ2_0 := bQ2.cell 0 rfl
          have bQ2_1 := bQ2.cell 1 rfl
          have bQ2_l := bQ2.lt
          go_wp2
          go_ret
          exact ⟨rfl, HB.out⟩
        case pos =>
          have F6 := Lib.hid (F5.out h0)
          subst h0
          clear F5
          by_cases h0 : c2 = 0
          case neg =>
            have h1 : (c2 != 0) = true := by simpa using h0
            clear h0
            have bA_0 := bA.cell 0 rfl
            have bA_1 := bA.cell 1 rfl
            have bA_2 := bA.cell 2 rfl
            have bA_3 := bA.cell 3 rfl
            have bA_l := bA.lt
            have bB_0 := bB.cell 0 rfl
            have bB_1 := bB.cell 1 rfl
            have bB_2 := bB.cell 2 rfl
            have bB_3 := bB.cell 3 rfl
            have bB_l := bB.lt
            have bR0_0 := bR0.cell 0 rfl
            have bR0_1 := bR0.cell 1 rfl
            have bR0_l := bR0.lt
            have bR2_0 := bR2.cell 0 rfl
            have bR2_1 := bR2.cell 1 rfl
            have bR2_l := bR2.lt
            have bQ1_0 := bQ1.cell 0 rfl
            have bQ1_1 := bQ1.cell 1 rfl
            have bQ1_l := bQ1.lt
            have bQ2_0 := bQ2.cell 0 rfl
            have bQ2_1 := bQ2.cell 1 rfl
            have bQ2_l := bQ2.lt
            go_wp2
            go_ret
            exact ⟨rfl, HB.out⟩
          case pos =>
            obtain ⟨f1, f2, f3⟩ := F6.out h0
            subst h0
            clear F6
            obtain ⟨D1, hD1⟩ : ∃ qq, x1 - x2 = qq := ⟨_, rfl⟩
            obtain ⟨D2, hD2⟩ : ∃ qq, y1 - y2 = qq := ⟨_, rfl⟩
            rw [hD1, hD2] at f1 f2
            have m1 := mul_abs (a := D1) (n := D1) (A := 200000) (N := 200000) (by omega) (by omega)
            have m2 := mul_abs (a := D2) (n := D2) (A := 200000) (N := 200000) (by omega) (by omega)
            obtain ⟨S1, hS1⟩ : ∃ qq, D1 * D1 = qq := ⟨_, rfl⟩
            obtain ⟨S2, hS2⟩ : ∃ qq, D2 * D2 = qq := ⟨_, rfl⟩
            rw [hS1, hS2] at f1
            rw [hS1] at m1
            rw [hS2] at m2
            obtain ⟨SS, hSS⟩ : ∃ qq, S1 + S2 = qq := ⟨_, rfl⟩
            rw [hSS] at f1
            have m3 := mul_abs (a := SS) (n := q) (A := 80000000000) (N := 8000000) (by omega) (by omega)
            obtain ⟨PP, hPP⟩ : ∃ qq, SS * q = qq := ⟨_, rfl⟩
            rw [hPP] at f1 m3
            have w1_ : IntKind.wrap .i64 (x1 - x2) = D1 := by rw [hD1]; exact IntWalk.i64_in _ (by omega)
            have w2_ : IntKind.wrap .i64 (y1 - y2) = D2 := by rw [hD2]; exact IntWalk.i64_in _ (by omega)
            have w3_ : IntKind.wrap .i64 (D1 * D1) = S1 := by rw [hS1]; exact IntWalk.i64_in _ (by omega)
            have w4_ : IntKind.wrap .i64 (D2 * D2) = S2 := by rw [hS2]; exact IntWalk.i64_in _ (by omega)
            have w5_ : IntKind.wrap .i64 (S1 + S2) = SS := by rw [hSS]; exact IntWalk.i64_in _ (by omega)
            have w6_ : IntKind.wrap .i64 (SS * q) = PP := by rw [hPP]; exact IntWalk.i64_in _ (by omega)
            clear hD1 hD2 hS1 hS2 hSS hPP m1 m2 m3 f2 f3
            have bA_0 := bA.cell 0 rfl
            have bA_1 := bA.cell 1 rfl
            have bA_2 := bA.cell 2 rfl
            have bA_3 := bA.cell 3 rfl
            have bA_l := bA.lt
            have bB_0 := bB.cell 0 rfl
            have bB_1 := bB.cell 1 rfl
            have bB_2 := bB.cell 2 rfl
            have bB_3 := bB.cell 3 rfl
            have bB_l := bB.lt
            have bR0_0 := bR0.cell 0 rfl
            have bR0_1 := bR0.cell 1 rfl
            have bR0_l := bR0.lt
            have bR2_0 := bR2.cell 0 rfl
            have bR2_1 := bR2.cell 1 rfl
            have bR2_l := bR2.lt
            have bQ1_0 := bQ1.cell 0 rfl
            have bQ1_1 := bQ1.cell 1 rfl
            have bQ1_l := bQ1.lt
            have bQ2_0 := bQ2.cell 0 rfl
            have bQ2_1 := bQ2.cell 1 rfl
            have bQ2_l := bQ2.lt
            go_wp2
            go_ret
            exact ⟨ret_bool (by first | exact decide_eq_true f1 | simp [f1]), HB.out⟩
end Go.Proofs.Ytkjpjhklnaehbaa
