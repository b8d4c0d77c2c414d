/- The walks of the exact laws of CrossFix, PositionAt, ClosestTime, ClosestSquare, BearingDrift, DoMeet: each returns true and writes nothing that was there. -/
import Derived.Test.YtkjpjhklnaehbaaBrL
import Derived.Test.YtkjpjhklnaehbaaBrX
import Derived.Test.YtkjpjhklnaehbaaBrG
import Derived.Deep.RegionHeld3
import Derived.Deep.DeepCutAuto
import Derived.Deep.DrawnRows
import Derived.Deep.RegionWith
namespace Go.Proofs.Ytkjpjhklnaehbaa
open Go.ChangeShapes Go.WideShapes Go.ChangeAt Go.RowKit Go.Shelf Num
set_option linter.unusedVariables false
set_option linter.unusedSimpArgs false

theorem eqpt_any (a b c d : Int) (w : World) :
    Calls Try.prog 29 #[.agg #[.int .i64 a, .int .i64 b], .agg #[.int .i64 c, .int .i64 d]] w fun e w' => e = .returned (.bool (a == c && b == d)) ∧ Below w.heap.size w w' := by
  cases ha : (a == c) <;> cases hb : (b == d)
  all_goals
    have ha' : (a != c) = !(a == c) := rfl
    have hb' : (b != d) = !(b == d) := rfl
    rw [ha] at ha'
    rw [hb] at hb'
    go_enter Try.func29, Try.ntmps29
    go_wp2
    go_ret
    exact ⟨rfl, (by repeat (first | exact Below.refl _ _ | (refine Below.alloc ?_ (by simp <;> omega) _) | (refine Below.setCell ?_ (by simp <;> omega) _) | (refine Below.drew ?_) | (refine bel_drewN ?_ _)))⟩

set_option maxRecDepth 100000 in
set_option maxHeartbeats 4000000 in
theorem ttk_any (w : World) (x y s t : Int) :
    Calls Try.prog 27 #[.agg #[.int .i64 x, .int .i64 y, .int .i64 s, .int .i64 t]] w fun e w' => e = .returned (.agg #[.int .i64 x, .int .i64 y, .int .i64 s, .int .i64 t]) ∧ Below w.heap.size w w' := by
  go_enter Try.func27, Try.ntmps27
  go_wp2_with fail
  generalize hW : World.alloc _ _ = W
  have bX : Bk W (w.heap.size) #[.int .i64 x, .int .i64 y, .int .i64 s, .int .i64 t] 40 := by rw [← hW]; repeat (first | (refine Bk.new' ?_; (simp; done)) | refine Bk.alloc ?_ _)
  have bR : Bk W (w.heap.size + 1) #[.int .i64 0, .int .i64 0, .int .i64 0, .int .i64 0] 44 := by rw [← hW]; repeat (first | (refine Bk.new' ?_; (simp; done)) | refine Bk.alloc ?_ _)
  have bT : Bk W (w.heap.size + 1 + 1) #[.int .i64 0, .int .i64 0, .int .i64 0, .int .i64 0] 44 := by rw [← hW]; repeat (first | (refine Bk.new' ?_; (simp; done)) | refine Bk.alloc ?_ _)
  have HB : Hid (Below w.heap.size w W) := Lib.hid (by rw [← hW]; exact (by repeat (first | exact Below.refl _ _ | (refine Below.alloc ?_ (by simp <;> omega) _) | (refine Below.setCell ?_ (by simp <;> omega) _) | (refine Below.drew ?_) | (refine bel_drewN ?_ _))))
  clear hW
  refine (tpt_any _ x y).mono ?_
  rintro e w1 ⟨rfl, hb⟩
  replace bX := bX.on hb
  replace bR := bR.on hb
  replace bT := bT.on hb
  replace HB := Lib.hid (bel_end HB.out hb)
  clear hb
  have bT_0 := bT.cell 0 rfl
  have bT_1 := bT.cell 1 rfl
  have bT_2 := bT.cell 2 rfl
  have bT_3 := bT.cell 3 rfl
  have bT_f0 := bT.frozen 0
  have bT_f1 := bT.frozen 1
  have bT_f2 := bT.frozen 2
  have bT_f3 := bT.frozen 3
  have bT_l := bT.lt
  go_upto_region 3 with fail
  clear bT_0 bT_f0 bT_1 bT_f1 bT_2 bT_f2 bT_3 bT_f3 bT_l
  generalize hW : World.setCell _ _ _ = W2
  replace bX : Bk W2 (w.heap.size) #[.int .i64 x, .int .i64 y, .int .i64 s, .int .i64 t] 40 := by rw [← hW]; exact (bX.other (by omega) 0 _).other (by omega) 1 _
  replace bR : Bk W2 (w.heap.size + 1) #[.int .i64 0, .int .i64 0, .int .i64 0, .int .i64 0] 44 := by rw [← hW]; exact (bR.other (by omega) 0 _).other (by omega) 1 _
  replace bT : Bk W2 (w.heap.size + 1 + 1) #[.int .i64 x, .int .i64 y, .int .i64 0, .int .i64 0] 44 := by rw [← hW]; exact (bT.set 0 _ rfl).set 1 _ rfl
  replace HB : Hid (Below w.heap.size w W2) := Lib.hid (by rw [← hW]; exact (HB.out.setCell (p := ⟨w.heap.size + 1 + 1, 0, none⟩) (by dsimp only; omega) _).setCell (p := ⟨w.heap.size + 1 + 1, 1, none⟩) (by dsimp only; omega) _)
  clear hW
  have bX_0 := bX.cell 0 rfl
  have bX_1 := bX.cell 1 rfl
  have bX_2 := bX.cell 2 rfl
  have bX_3 := bX.cell 3 rfl
  have bX_l := bX.lt
  go_wp2_with fail
  clear bX_0 bX_1 bX_2 bX_3 bX_l
  refine (tpt_any _ s t).mono ?_
  rintro e w2 ⟨rfl, hb⟩
  replace bX := bX.on hb
  replace bR := bR.on hb
  replace bT := bT.on hb
  replace HB := Lib.hid (bel_end HB.out hb)
  clear hb
  have bT_0 := bT.cell 0 rfl
  have bT_1 := bT.cell 1 rfl
  have bT_2 := bT.cell 2 rfl
  have bT_3 := bT.cell 3 rfl
  have bT_f0 := bT.frozen 0
  have bT_f1 := bT.frozen 1
  have bT_f2 := bT.frozen 2
  have bT_f3 := bT.frozen 3
  have bT_l := bT.lt
  go_upto_region 4 with fail
  clear bT_0 bT_f0 bT_1 bT_f1 bT_2 bT_f2 bT_3 bT_f3 bT_l
  generalize hW : World.setCell _ _ _ = W3
  replace bX : Bk W3 (w.heap.size) #[.int .i64 x, .int .i64 y, .int .i64 s, .int .i64 t] 40 := by rw [← hW]; exact (bX.other (by omega) 2 _).other (by omega) 3 _
  replace bR : Bk W3 (w.heap.size + 1) #[.int .i64 0, .int .i64 0, .int .i64 0, .int .i64 0] 44 := by rw [← hW]; exact (bR.other (by omega) 2 _).other (by omega) 3 _
  replace bT : Bk W3 (w.heap.size + 1 + 1) #[.int .i64 x, .int .i64 y, .int .i64 s, .int .i64 t] 44 := by rw [← hW]; exact (bT.set 2 _ rfl).set 3 _ rfl
  replace HB : Hid (Below w.heap.size w W3) := Lib.hid (by rw [← hW]; exact (HB.out.setCell (p := ⟨w.heap.size + 1 + 1, 2, none⟩) (by dsimp only; omega) _).setCell (p := ⟨w.heap.size + 1 + 1, 3, none⟩) (by dsimp only; omega) _)
  clear hW
  have bT_0 := bT.cell 0 rfl
  have bT_1 := bT.cell 1 rfl
  have bT_2 := bT.cell 2 rfl
  have bT_3 := bT.cell 3 rfl
  have bT_l := bT.lt
  have bR_0 := bR.cell 0 rfl
  have bR_1 := bR.cell 1 rfl
  have bR_2 := bR.cell 2 rfl
  have bR_3 := bR.cell 3 rfl
  have bR_f0 := bR.frozen 0
  have bR_f1 := bR.frozen 1
  have bR_f2 := bR.frozen 2
  have bR_f3 := bR.frozen 3
  have bR_l := bR.lt
  go_wp2
  exact bodyPost_ret (v := .agg #[.int .i64 x, .int .i64 y, .int .i64 s, .int .i64 t]) (by simp [results, Try.results27, go_sem, bR_0, bR_f0, bR_1, bR_f1, bR_2, bR_f2, bR_3, bR_f3, bR_l]) rfl ⟨rfl, (by repeat (first | exact HB.out | (refine Below.setCell ?_ (by simp <;> omega) _) | (refine Below.alloc ?_ (by simp <;> omega) _) | (refine Below.drew ?_)))⟩

set_option maxRecDepth 100000 in
set_option maxHeartbeats 8000000 in
theorem lpoa (x y s t u : Int) (w1 : (Lit.int .i64 u).wf = true) (w : World) :
    Calls Try.prog 7 #[.agg #[.int .i64 x, .int .i64 y, .int .i64 s, .int .i64 t], .int .i64 u] w fun e w' => e = .returned (.bool true) ∧ Below w.heap.size w w' := by
  clear w1
  obtain ⟨⟨p, q, c⟩, hT⟩ : ∃ qq, poT x y s t u = qq := ⟨_, rfl⟩
  have S1 : Hid (∀ W : World, Calls Try.prog 26 #[.agg #[.int .i64 x, .int .i64 y, .int .i64 s, .int .i64 t], .int .i64 u] W fun e w' => e = .returned (.tuple #[.agg #[.int .i64 p, .int .i64 q], .int .i64 c]) ∧ Below W.heap.size W w') := Lib.hid (fun W => by have := spo_any W x y s t u; rwa [hT] at this)
  have S2 : Hid (∀ W : World, Calls Try.prog 28 #[.agg #[.int .i64 x, .int .i64 y, .int .i64 s, .int .i64 t], .int .i64 u] W fun e w' => e = .returned (.tuple #[.agg #[.int .i64 p, .int .i64 q], .int .i64 c]) ∧ Below W.heap.size W w') := Lib.hid (fun W => by have := ipo_any W x y s t u; rwa [hT] at this)
  clear hT
  go_enter Try.func7, Try.ntmps7
  go_wp2_with fail
  generalize hW : World.alloc _ _ = W
  have bA : Bk W (w.heap.size) #[.int .i64 x, .int .i64 y, .int .i64 s, .int .i64 t] 40 := by rw [← hW]; repeat (first | (refine Bk.new' ?_; (simp; done)) | refine Bk.alloc ?_ _)
  have HB : Hid (Below w.heap.size w W) := Lib.hid (by rw [← hW]; exact (by repeat (first | exact Below.refl _ _ | (refine Below.alloc ?_ (by simp <;> omega) _) | (refine Below.setCell ?_ (by simp <;> omega) _) | (refine Below.drew ?_) | (refine bel_drewN ?_ _))))
  clear hW
  refine (ttk_any _ _ _ _ _).mono ?_
  rintro e w1 ⟨rfl, hb⟩
  replace bA := bA.on hb
  replace HB := Lib.hid (bel_end HB.out hb)
  clear hb
  have bA_0 := bA.cell 0 rfl
  have bA_1 := bA.cell 1 rfl
  have bA_2 := bA.cell 2 rfl
  have bA_3 := bA.cell 3 rfl
  have bA_l := bA.lt
  go_wp2_with fail
  refine (S1.out _).mono ?_
  rintro e w2 ⟨rfl, hb⟩
  replace bA := bA.on hb
  replace HB := Lib.hid (bel_end HB.out hb)
  clear hb
  clear bA_0 bA_1 bA_2 bA_3 bA_l
  have bA_0 := bA.cell 0 rfl
  have bA_1 := bA.cell 1 rfl
  have bA_2 := bA.cell 2 rfl
  have bA_3 := bA.cell 3 rfl
  have bA_l := bA.lt
  go_upto_region 2 with fail
  clear bA_0 bA_1 bA_2 bA_3 bA_l
  generalize hW : World.alloc _ _ = WRa
  obtain ⟨ga, hg⟩ : ∃ g, g = w2.heap.size := ⟨_, rfl⟩
  have bRa : Bk WRa ga #[.int .i64 p, .int .i64 q] 25 := by rw [← hW]; exact Bk.new' hg
  have hb : Below w2.heap.size w2 WRa := by rw [← hW]; exact (Below.refl _ _).alloc (Nat.le_refl _) _
  try rw [← hg]
  clear hW hg
  replace bA := bA.on hb
  replace HB := Lib.hid (bel_end HB.out hb)
  clear hb
  have bA_0 := bA.cell 0 rfl
  have bA_1 := bA.cell 1 rfl
  have bA_2 := bA.cell 2 rfl
  have bA_3 := bA.cell 3 rfl
  have bA_l := bA.lt
  have bRa_0 := bRa.cell 0 rfl
  have bRa_1 := bRa.cell 1 rfl
  have bRa_l := bRa.lt
  go_wp2_with fail
  refine (ttk_any _ _ _ _ _).mono ?_
  rintro e w3 ⟨rfl, hb⟩
  replace bA := bA.on hb
  replace bRa := bRa.on hb
  replace HB := Lib.hid (bel_end HB.out hb)
  clear hb
  clear bA_0 bA_1 bA_2 bA_3 bA_l bRa_0 bRa_1 bRa_l
  have bA_0 := bA.cell 0 rfl
  have bA_1 := bA.cell 1 rfl
  have bA_2 := bA.cell 2 rfl
  have bA_3 := bA.cell 3 rfl
  have bA_l := bA.lt
  have bRa_0 := bRa.cell 0 rfl
  have bRa_1 := bRa.cell 1 rfl
  have bRa_l := bRa.lt
  go_wp2_with fail
  refine (S2.out _).mono ?_
  rintro e w4 ⟨rfl, hb⟩
  replace bA := bA.on hb
  replace bRa := bRa.on hb
  replace HB := Lib.hid (bel_end HB.out hb)
  clear hb
  clear bA_0 bA_1 bA_2 bA_3 bA_l bRa_0 bRa_1 bRa_l
  have bA_0 := bA.cell 0 rfl
  have bA_1 := bA.cell 1 rfl
  have bA_2 := bA.cell 2 rfl
  have bA_3 := bA.cell 3 rfl
  have bA_l := bA.lt
  have bRa_0 := bRa.cell 0 rfl
  have bRa_1 := bRa.cell 1 rfl
  have bRa_l := bRa.lt
  go_upto_region 3 with fail
  clear bA_0 bA_1 bA_2 bA_3 bA_l bRa_0 bRa_1 bRa_l
  generalize hW : World.alloc _ _ = WRb
  obtain ⟨gb, hg⟩ : ∃ g, g = w4.heap.size := ⟨_, rfl⟩
  have bRb : Bk WRb gb #[.int .i64 p, .int .i64 q] 25 := by rw [← hW]; exact Bk.new' hg
  have hb : Below w4.heap.size w4 WRb := by rw [← hW]; exact (Below.refl _ _).alloc (Nat.le_refl _) _
  try rw [← hg]
  clear hW hg
  replace bA := bA.on hb
  replace bRa := bRa.on hb
  replace HB := Lib.hid (bel_end HB.out hb)
  clear hb
  have bA_0 := bA.cell 0 rfl
  have bA_1 := bA.cell 1 rfl
  have bA_2 := bA.cell 2 rfl
  have bA_3 := bA.cell 3 rfl
  have bA_l := bA.lt
  have bRa_0 := bRa.cell 0 rfl
  have bRa_1 := bRa.cell 1 rfl
  have bRa_l := bRa.lt
  have bRb_0 := bRb.cell 0 rfl
  have bRb_1 := bRb.cell 1 rfl
  have bRb_l := bRb.lt
  go_wp2_with fail
  clear bA_0 bA_1 bA_2 bA_3 bA_l bRa_0 bRa_1 bRa_l bRb_0 bRb_1 bRb_l
  refine (eqpt_any _ _ _ _ _).mono ?_
  simp only [beq_self_eq_true, Bool.and_self]
  rintro e we0 ⟨rfl, hb⟩
  replace bA := bA.on hb
  replace bRa := bRa.on hb
  replace bRb := bRb.on hb
  replace HB := Lib.hid (bel_end HB.out hb)
  clear hb
  have bA_0 := bA.cell 0 rfl
  have bA_1 := bA.cell 1 rfl
  have bA_2 := bA.cell 2 rfl
  have bA_3 := bA.cell 3 rfl
  have bA_l := bA.lt
  have bRa_0 := bRa.cell 0 rfl
  have bRa_1 := bRa.cell 1 rfl
  have bRa_l := bRa.lt
  have bRb_0 := bRb.cell 0 rfl
  have bRb_1 := bRb.cell 1 rfl
  have bRb_l := bRb.lt
  go_wp2
  go_ret
  exact ⟨rfl, HB.out⟩

set_option maxRecDepth 100000 in
set_option maxHeartbeats 8000000 in
theorem lclt (a1 a2 a3 a4 b1 b2 b3 b4 : Int) (w : World) :
    Calls Try.prog 8 #[.agg #[.int .i64 a1, .int .i64 a2, .int .i64 a3, .int .i64 a4], .agg #[.int .i64 b1, .int .i64 b2, .int .i64 b3, .int .i64 b4]] w fun e w' => e = .returned (.bool true) ∧ Below w.heap.size w w' := by
  obtain ⟨⟨p, q, c⟩, hT⟩ : ∃ qq, ctR a1 a2 a3 a4 b1 b2 b3 b4 = qq := ⟨_, rfl⟩
  have S1 : Hid (∀ W : World, Calls Try.prog 30 #[.agg #[.int .i64 a1, .int .i64 a2, .int .i64 a3, .int .i64 a4], .agg #[.int .i64 b1, .int .i64 b2, .int .i64 b3, .int .i64 b4]] W fun e w' => e = .returned (.tuple #[.agg #[.int .i64 p, .int .i64 q], .int .i64 c]) ∧ Below W.heap.size W w') := Lib.hid (fun W => by have := sct_any W a1 a2 a3 a4 b1 b2 b3 b4; rwa [hT] at this)
  have S2 : Hid (∀ W : World, Calls Try.prog 31 #[.agg #[.int .i64 a1, .int .i64 a2, .int .i64 a3, .int .i64 a4], .agg #[.int .i64 b1, .int .i64 b2, .int .i64 b3, .int .i64 b4]] W fun e w' => e = .returned (.tuple #[.agg #[.int .i64 p, .int .i64 q], .int .i64 c]) ∧ Below W.heap.size W w') := Lib.hid (fun W => by have := ict_any W a1 a2 a3 a4 b1 b2 b3 b4; rwa [hT] at this)
  clear hT
  go_enter Try.func8, Try.ntmps8
  go_upto_region 1 with fail
  generalize hW : World.alloc _ _ = W
  have bA : Bk W (w.heap.size) #[.int .i64 a1, .int .i64 a2, .int .i64 a3, .int .i64 a4] 40 := by rw [← hW]; repeat (first | (refine Bk.new' ?_; (simp; done)) | refine Bk.alloc ?_ _)
  have bB : Bk W (w.heap.size + 1) #[.int .i64 b1, .int .i64 b2, .int .i64 b3, .int .i64 b4] 40 := by rw [← hW]; repeat (first | (refine Bk.new' ?_; (simp; done)) | refine Bk.alloc ?_ _)
  have HB : Hid (Below w.heap.size w W) := Lib.hid (by rw [← hW]; exact (by repeat (first | exact Below.refl _ _ | (refine Below.alloc ?_ (by simp <;> omega) _) | (refine Below.setCell ?_ (by simp <;> omega) _) | (refine Below.drew ?_) | (refine bel_drewN ?_ _))))
  clear hW
  have bA_0 := bA.cell 0 rfl
  have bA_1 := bA.cell 1 rfl
  have bA_2 := bA.cell 2 rfl
  have bA_3 := bA.cell 3 rfl
  have bA_l := bA.lt
  have bB_0 := bB.cell 0 rfl
  have bB_1 := bB.cell 1 rfl
  have bB_2 := bB.cell 2 rfl
  have bB_3 := bB.cell 3 rfl
  have bB_l := bB.lt
  go_upto_region 1 with fail
  clear bA_0 bA_1 bA_2 bA_3 bA_l bB_0 bB_1 bB_2 bB_3 bB_l
  go_cut [5, 6] (fun s5 s6 wx => XR1 wx s5 s6 #[.int .i64 p, .int .i64 q] 34 (c) ∧ Below W.heap.size W wx)
  case first =>
    have HW : Hid (Below W.heap.size W W) := Lib.hid (Below.refl _ _)
    obtain ⟨S, hSd⟩ : ∃ S : World → Prop, ∀ w', S w' ↔ (w'.cell? ⟨w.heap.size, 0, none⟩ = some (.int .i64 a1) ∧ w'.cell? ⟨w.heap.size, 1, none⟩ = some (.int .i64 a2) ∧ w'.cell? ⟨w.heap.size, 2, none⟩ = some (.int .i64 a3) ∧ w'.cell? ⟨w.heap.size, 3, none⟩ = some (.int .i64 a4) ∧ w'.cell? ⟨w.heap.size + 1, 0, none⟩ = some (.int .i64 b1) ∧ w'.cell? ⟨w.heap.size + 1, 1, none⟩ = some (.int .i64 b2) ∧ w'.cell? ⟨w.heap.size + 1, 2, none⟩ = some (.int .i64 b3) ∧ w'.cell? ⟨w.heap.size + 1, 3, none⟩ = some (.int .i64 b4)) := ⟨_, fun _ => Iff.rfl⟩
    have HSp : Hid (∀ w' : World, Bk w' (w.heap.size) #[.int .i64 a1, .int .i64 a2, .int .i64 a3, .int .i64 a4] 40 → Bk w' (w.heap.size + 1) #[.int .i64 b1, .int .i64 b2, .int .i64 b3, .int .i64 b4] 40 → S w') := Lib.hid (fun w' bA bB => (hSd w').2 ⟨bA.cell 0 rfl, bA.cell 1 rfl, bA.cell 2 rfl, bA.cell 3 rfl, bB.cell 0 rfl, bB.cell 1 rfl, bB.cell 2 rfl, bB.cell 3 rfl⟩)
    have HSd := Lib.hid hSd
    clear hSd
    refine wp_region_held_drew (S := S) (by kernel_rfl) ?_ (fun hH => ?_)
    · exact (HSp.out _ bA bB : S (World.drew W))
    clear hH
    generalize hX : World.drew W = V0
    replace bA : Bk V0 (w.heap.size) #[.int .i64 a1, .int .i64 a2, .int .i64 a3, .int .i64 a4] 40 := by rw [← hX]; exact bA
    replace bB : Bk V0 (w.heap.size + 1) #[.int .i64 b1, .int .i64 b2, .int .i64 b3, .int .i64 b4] 40 := by rw [← hX]; exact bB
    have hb : Below W.heap.size W V0 := by rw [← hX]; exact (Below.refl _ _).drew
    clear hX
    replace HW := Lib.hid (bel_end HW.out hb)
    clear hb
    have hS := HSp.out _ bA bB
    refine wpAnyH_take (i := 0) (oi := { dst := some 10, op := Go.Op.load 40 (Go.Operand.tmp 2), type := 40, pos := "exact.go:4053", after := #[], guard := none }) (v := ?_) rfl (by kernel_rfl) (by kernel_rfl) (by kernel_rfl) (fun _ _ _ h => h) (Or.inl ⟨by rfl, ?_⟩) hS ?_
    rotate_left
    · (intro w hSw; have hSw := (HSd.out w).1 hSw; go_split_ands; go_simp) <;> with_reducible rfl
    clear hS
    try simp only [Act.put, List.setIfInBounds_toArray, List.set_cons_zero, List.set_cons_succ]
    have hS := HSp.out _ bA bB
    refine wpAnyH_take (i := 2) (oi := { dst := some 12, op := Go.Op.load 40 (Go.Operand.tmp 3), type := 40, pos := "exact.go:4053", after := #[], guard := none }) (v := ?_) rfl (by kernel_rfl) (by kernel_rfl) (by kernel_rfl) (fun _ _ _ h => h) (Or.inl ⟨by rfl, ?_⟩) hS ?_
    rotate_left
    · (intro w hSw; have hSw := (HSd.out w).1 hSw; go_split_ands; go_simp) <;> with_reducible rfl
    clear hS
    try simp only [Act.put, List.setIfInBounds_toArray, List.set_cons_zero, List.set_cons_succ]
    refine wpAnyH_ready (rs := [1, 8]) (by decide +kernel) (by simp) ?_
    refine AllReadyH.cons (o := { dst := some 11, op := Go.Op.call { callee := Go.Callee.value (Go.Operand.func 27), args := #[Go.Operand.tmp 10], argTypes := #[40] }, type := 44, pos := "exact.go:4053", after := #[{ on := 0, ground := Go.Ground.data }], guard := none }) rfl (fun Kn hK => ?_) ?_
    first | go_at_call 27 | (go_simp; go_at_call 27)
    (with_reducible refine Calls.mono (ttk_any _ _ _ _ _) ?_)
    rintro e V1 ⟨rfl, hb⟩
    try dsimp only
    try simp only [Act.put, List.setIfInBounds_toArray, List.set_cons_zero, List.set_cons_succ]
    replace bA := bA.on hb
    replace bB := bB.on hb
    replace HW := Lib.hid (bel_end HW.out hb)
    clear hb
    refine hK.out _ _ (HSp.out _ bA bB) (fun _ => ?_)
    clear hK Kn
    rotate_left
    refine AllReadyH.cons (o := { dst := some 5, op := Go.Op.alloc 34, type := 0, pos := "exact.go:4053", after := #[], guard := none }) rfl (fun Kn hK => ?_) AllReadyH.nil
    go_simp
    generalize hX : World.alloc V0 _ = V1
    obtain ⟨g8, hg⟩ : ∃ g, g = V0.heap.size := ⟨_, rfl⟩
    have bn8 : Bk V1 g8 #[.int .i64 0, .int .i64 0] 34 := by rw [← hX]; exact Bk.new' hg
    have le8 : W.heap.size ≤ g8 := by rw [hg]; exact HW.out.size
    have nebA_8 : w.heap.size ≠ g8 := by have := bA.lt; omega
    have nebB_8 : w.heap.size + 1 ≠ g8 := by have := bB.lt; omega
    try rw [← hg]
    have hb : Below V0.heap.size V0 V1 := by rw [← hX]; exact (Below.refl _ _).alloc (Nat.le_refl _) _
    clear hX hg
    replace bA := bA.on hb
    replace bB := bB.on hb
    replace HW := Lib.hid (bel_end HW.out hb)
    clear hb
    refine hK.out _ _ (HSp.out _ bA bB) (fun _ => ?_)
    clear hK Kn
    all_goals
      first
      | (refine wpAnyH_ready (rs := [3, 8]) (by decide +kernel) (by simp) ?_
         refine AllReadyH.cons (o := { dst := some 13, op := Go.Op.call { callee := Go.Callee.value (Go.Operand.func 27), args := #[Go.Operand.tmp 12], argTypes := #[40] }, type := 44, pos := "exact.go:4053", after := #[{ on := 2, ground := Go.Ground.data }, { on := 1, ground := Go.Ground.chain }], guard := none }) rfl (fun Kn hK => ?_) ?_
         first | go_at_call 27 | (go_simp; go_at_call 27)
         (with_reducible refine Calls.mono (ttk_any _ _ _ _ _) ?_)
         rintro e V2 ⟨rfl, hb⟩
         try dsimp only
         try simp only [Act.put, List.setIfInBounds_toArray, List.set_cons_zero, List.set_cons_succ]
         replace bA := bA.on hb
         replace bB := bB.on hb
         replace HW := Lib.hid (bel_end HW.out hb)
         clear hb
         refine hK.out _ _ (HSp.out _ bA bB) (fun _ => ?_)
         clear hK Kn
         rotate_left
         refine AllReadyH.cons (o := { dst := some 5, op := Go.Op.alloc 34, type := 0, pos := "exact.go:4053", after := #[], guard := none }) rfl (fun Kn hK => ?_) AllReadyH.nil
         go_simp
         generalize hX : World.alloc V1 _ = V2
         obtain ⟨g8, hg⟩ : ∃ g, g = V1.heap.size := ⟨_, rfl⟩
         have bn8 : Bk V2 g8 #[.int .i64 0, .int .i64 0] 34 := by rw [← hX]; exact Bk.new' hg
         have le8 : W.heap.size ≤ g8 := by rw [hg]; exact HW.out.size
         have nebA_8 : w.heap.size ≠ g8 := by have := bA.lt; omega
         have nebB_8 : w.heap.size + 1 ≠ g8 := by have := bB.lt; omega
         try rw [← hg]
         have hb : Below V1.heap.size V1 V2 := by rw [← hX]; exact (Below.refl _ _).alloc (Nat.le_refl _) _
         clear hX hg
         replace bA := bA.on hb
         replace bB := bB.on hb
         replace HW := Lib.hid (bel_end HW.out hb)
         clear hb
         refine hK.out _ _ (HSp.out _ bA bB) (fun _ => ?_)
         clear hK Kn)
      | (refine wpAnyH_ready (rs := [1]) (by decide +kernel) (by simp) ?_
         refine AllReadyH.cons (o := { dst := some 11, op := Go.Op.call { callee := Go.Callee.value (Go.Operand.func 27), args := #[Go.Operand.tmp 10], argTypes := #[40] }, type := 44, pos := "exact.go:4053", after := #[{ on := 0, ground := Go.Ground.data }], guard := none }) rfl (fun Kn hK => ?_) AllReadyH.nil
         first | go_at_call 27 | (go_simp; go_at_call 27)
         (with_reducible refine Calls.mono (ttk_any _ _ _ _ _) ?_)
         rintro e V2 ⟨rfl, hb⟩
         try dsimp only
         try simp only [Act.put, List.setIfInBounds_toArray, List.set_cons_zero, List.set_cons_succ]
         replace bA := bA.on hb
         replace bB := bB.on hb
         replace bn8 := bn8.on hb
         replace HW := Lib.hid (bel_end HW.out hb)
         clear hb
         refine hK.out _ _ (HSp.out _ bA bB) (fun _ => ?_)
         clear hK Kn)
    all_goals
      first
      | (refine wpAnyH_ready (rs := [4, 8]) (by decide +kernel) (by simp) ?_
         refine AllReadyH.cons (o := { dst := some 14, op := Go.Op.call { callee := Go.Callee.value (Go.Operand.func 30), args := #[Go.Operand.tmp 11, Go.Operand.tmp 13], argTypes := #[44, 44] }, type := 48, pos := "exact.go:4053", after := #[{ on := 1, ground := Go.Ground.data }, { on := 3, ground := Go.Ground.data }, { on := 3, ground := Go.Ground.chain }], guard := none }) rfl (fun Kn hK => ?_) ?_
         first | go_at_call 30 | (go_simp; go_at_call 30)
         (with_reducible refine Calls.mono (S1.out _) ?_)
         rintro e V3 ⟨rfl, hb⟩
         try dsimp only
         try simp only [Act.put, List.setIfInBounds_toArray, List.set_cons_zero, List.set_cons_succ]
         replace bA := bA.on hb
         replace bB := bB.on hb
         replace HW := Lib.hid (bel_end HW.out hb)
         clear hb
         refine hK.out _ _ (HSp.out _ bA bB) (fun _ => ?_)
         clear hK Kn
         rotate_left
         refine AllReadyH.cons (o := { dst := some 5, op := Go.Op.alloc 34, type := 0, pos := "exact.go:4053", after := #[], guard := none }) rfl (fun Kn hK => ?_) AllReadyH.nil
         go_simp
         generalize hX : World.alloc V2 _ = V3
         obtain ⟨g8, hg⟩ : ∃ g, g = V2.heap.size := ⟨_, rfl⟩
         have bn8 : Bk V3 g8 #[.int .i64 0, .int .i64 0] 34 := by rw [← hX]; exact Bk.new' hg
         have le8 : W.heap.size ≤ g8 := by rw [hg]; exact HW.out.size
         have nebA_8 : w.heap.size ≠ g8 := by have := bA.lt; omega
         have nebB_8 : w.heap.size + 1 ≠ g8 := by have := bB.lt; omega
         try rw [← hg]
         have hb : Below V2.heap.size V2 V3 := by rw [← hX]; exact (Below.refl _ _).alloc (Nat.le_refl _) _
         clear hX hg
         replace bA := bA.on hb
         replace bB := bB.on hb
         replace HW := Lib.hid (bel_end HW.out hb)
         clear hb
         refine hK.out _ _ (HSp.out _ bA bB) (fun _ => ?_)
         clear hK Kn)
      | (refine wpAnyH_ready (rs := [3]) (by decide +kernel) (by simp) ?_
         refine AllReadyH.cons (o := { dst := some 13, op := Go.Op.call { callee := Go.Callee.value (Go.Operand.func 27), args := #[Go.Operand.tmp 12], argTypes := #[40] }, type := 44, pos := "exact.go:4053", after := #[{ on := 2, ground := Go.Ground.data }, { on := 1, ground := Go.Ground.chain }], guard := none }) rfl (fun Kn hK => ?_) AllReadyH.nil
         first | go_at_call 27 | (go_simp; go_at_call 27)
         (with_reducible refine Calls.mono (ttk_any _ _ _ _ _) ?_)
         rintro e V3 ⟨rfl, hb⟩
         try dsimp only
         try simp only [Act.put, List.setIfInBounds_toArray, List.set_cons_zero, List.set_cons_succ]
         replace bA := bA.on hb
         replace bB := bB.on hb
         replace bn8 := bn8.on hb
         replace HW := Lib.hid (bel_end HW.out hb)
         clear hb
         refine hK.out _ _ (HSp.out _ bA bB) (fun _ => ?_)
         clear hK Kn)
    all_goals
      first
      | (have hS := HSp.out _ bA bB
         refine wpAnyH_take (i := 5) (oi := { dst := some 9, op := Go.Op.move (Go.Operand.tmp 14), type := 48, pos := "exact.go:4053", after := #[{ on := 4, ground := Go.Ground.data }], guard := none }) (v := ?_) rfl (by kernel_rfl) (by kernel_rfl) (by kernel_rfl) (fun _ _ _ h => h) (Or.inl ⟨by rfl, ?_⟩) hS ?_
         rotate_left
         · (intro w hSw; have hSw := (HSd.out w).1 hSw; go_split_ands; go_simp) <;> with_reducible rfl
         clear hS
         try simp only [Act.put, List.setIfInBounds_toArray, List.set_cons_zero, List.set_cons_succ]
         have hS := HSp.out _ bA bB
         refine wpAnyH_take (i := 6) (oi := { dst := some 15, op := Go.Op.extract (Go.Operand.tmp 9) 0, type := 34, pos := "exact.go:4053", after := #[{ on := 5, ground := Go.Ground.data }], guard := none }) (v := ?_) rfl (by kernel_rfl) (by kernel_rfl) (by kernel_rfl) (fun _ _ _ h => h) (Or.inl ⟨by rfl, ?_⟩) hS ?_
         rotate_left
         · (intro w hSw; have hSw := (HSd.out w).1 hSw; go_split_ands; go_simp) <;> with_reducible rfl
         clear hS
         try simp only [Act.put, List.setIfInBounds_toArray, List.set_cons_zero, List.set_cons_succ]
         have hS := HSp.out _ bA bB
         refine wpAnyH_take (i := 7) (oi := { dst := some 16, op := Go.Op.extract (Go.Operand.tmp 9) 1, type := 2, pos := "exact.go:4053", after := #[{ on := 5, ground := Go.Ground.data }, { on := 9, ground := Go.Ground.gcOnly Go.Departure.lateStores }], guard := none }) (v := ?_) rfl (by kernel_rfl) (by kernel_rfl) (by kernel_rfl) (fun _ _ _ h => h) (Or.inl ⟨by rfl, ?_⟩) hS ?_
         rotate_left
         · (intro w hSw; have hSw := (HSd.out w).1 hSw; go_split_ands; go_simp) <;> with_reducible rfl
         clear hS
         try simp only [Act.put, List.setIfInBounds_toArray, List.set_cons_zero, List.set_cons_succ]
         refine wpAnyH_ready (rs := [8]) (by decide +kernel) (by simp) ?_
         refine AllReadyH.cons (o := { dst := some 5, op := Go.Op.alloc 34, type := 0, pos := "exact.go:4053", after := #[], guard := none }) rfl (fun Kn hK => ?_) AllReadyH.nil
         go_simp
         generalize hX : World.alloc V3 _ = V4
         obtain ⟨g8, hg⟩ : ∃ g, g = V3.heap.size := ⟨_, rfl⟩
         have bn8 : Bk V4 g8 #[.int .i64 0, .int .i64 0] 34 := by rw [← hX]; exact Bk.new' hg
         have le8 : W.heap.size ≤ g8 := by rw [hg]; exact HW.out.size
         have nebA_8 : w.heap.size ≠ g8 := by have := bA.lt; omega
         have nebB_8 : w.heap.size + 1 ≠ g8 := by have := bB.lt; omega
         try rw [← hg]
         have hb : Below V3.heap.size V3 V4 := by rw [← hX]; exact (Below.refl _ _).alloc (Nat.le_refl _) _
         clear hX hg
         replace bA := bA.on hb
         replace bB := bB.on hb
         replace HW := Lib.hid (bel_end HW.out hb)
         clear hb
         refine hK.out _ _ (HSp.out _ bA bB) (fun _ => ?_)
         clear hK Kn)
      | (refine wpAnyH_ready (rs := [4]) (by decide +kernel) (by simp) ?_
         refine AllReadyH.cons (o := { dst := some 14, op := Go.Op.call { callee := Go.Callee.value (Go.Operand.func 30), args := #[Go.Operand.tmp 11, Go.Operand.tmp 13], argTypes := #[44, 44] }, type := 48, pos := "exact.go:4053", after := #[{ on := 1, ground := Go.Ground.data }, { on := 3, ground := Go.Ground.data }, { on := 3, ground := Go.Ground.chain }], guard := none }) rfl (fun Kn hK => ?_) AllReadyH.nil
         first | go_at_call 30 | (go_simp; go_at_call 30)
         (with_reducible refine Calls.mono (S1.out _) ?_)
         rintro e V4 ⟨rfl, hb⟩
         try dsimp only
         try simp only [Act.put, List.setIfInBounds_toArray, List.set_cons_zero, List.set_cons_succ]
         replace bA := bA.on hb
         replace bB := bB.on hb
         replace bn8 := bn8.on hb
         replace HW := Lib.hid (bel_end HW.out hb)
         clear hb
         refine hK.out _ _ (HSp.out _ bA bB) (fun _ => ?_)
         clear hK Kn)
    all_goals
      first
      | (refine wpAnyH_ready (rs := [9]) (by decide +kernel) (by simp) ?_
         refine AllReadyH.cons (o := { dst := none, op := Go.Op.store 34 (Go.Operand.tmp 5) (Go.Operand.tmp 15), type := 0, pos := "exact.go:4053", after := #[{ on := 8, ground := Go.Ground.data }, { on := 6, ground := Go.Ground.data }, { on := 4, ground := Go.Ground.chain }, { on := 0, ground := Go.Ground.phase }, { on := 1, ground := Go.Ground.phase }, { on := 2, ground := Go.Ground.phase }, { on := 3, ground := Go.Ground.phase }, { on := 4, ground := Go.Ground.phase }, { on := 5, ground := Go.Ground.phase }, { on := 6, ground := Go.Ground.phase }, { on := 7, ground := Go.Ground.textOnly Go.Departure.lateStores }, { on := 8, ground := Go.Ground.phase }], guard := none }) rfl (fun Kn hK => ?_) AllReadyH.nil
         have bn8_0 := bn8.cell 0 rfl
         have bn8_1 := bn8.cell 1 rfl
         have bn8_f0 := bn8.frozen 0
         have bn8_f1 := bn8.frozen 1
         have bn8_l := bn8.lt
         go_simp
         clear bn8_0 bn8_f0 bn8_1 bn8_f1 bn8_l
         generalize hX : World.setCell _ _ _ = V5
         have hb : Below W.heap.size W V5 := by rw [← hX]; exact ((HW.out.setCell (p := ⟨g8, 0, none⟩) le8 _).setCell (p := ⟨g8, 1, none⟩) le8 _)
         replace bA : Bk V5 (w.heap.size) #[.int .i64 a1, .int .i64 a2, .int .i64 a3, .int .i64 a4] 40 := by rw [← hX]; exact (Bk.other (Bk.other bA nebA_8 0 _) nebA_8 1 _)
         replace bB : Bk V5 (w.heap.size + 1) #[.int .i64 b1, .int .i64 b2, .int .i64 b3, .int .i64 b4] 40 := by rw [← hX]; exact (Bk.other (Bk.other bB nebB_8 0 _) nebB_8 1 _)
         replace bn8 : Bk V5 (g8) #[.int .i64 p, .int .i64 q] 34 := by rw [← hX]; exact (Bk.set (Bk.set bn8 0 _ rfl) 1 _ rfl)
         clear hX
         replace HW := Lib.hid hb
         clear hb
         refine hK.out _ _ (HSp.out _ bA bB) (fun _ => ?_)
         clear hK Kn)
      | (have hS := HSp.out _ bA bB
         refine wpAnyH_take (i := 5) (oi := { dst := some 9, op := Go.Op.move (Go.Operand.tmp 14), type := 48, pos := "exact.go:4053", after := #[{ on := 4, ground := Go.Ground.data }], guard := none }) (v := ?_) rfl (by kernel_rfl) (by kernel_rfl) (by kernel_rfl) (fun _ _ _ h => h) (Or.inl ⟨by rfl, ?_⟩) hS ?_
         rotate_left
         · (intro w hSw; have hSw := (HSd.out w).1 hSw; go_split_ands; go_simp) <;> with_reducible rfl
         clear hS
         try simp only [Act.put, List.setIfInBounds_toArray, List.set_cons_zero, List.set_cons_succ]
         have hS := HSp.out _ bA bB
         refine wpAnyH_take (i := 6) (oi := { dst := some 15, op := Go.Op.extract (Go.Operand.tmp 9) 0, type := 34, pos := "exact.go:4053", after := #[{ on := 5, ground := Go.Ground.data }], guard := none }) (v := ?_) rfl (by kernel_rfl) (by kernel_rfl) (by kernel_rfl) (fun _ _ _ h => h) (Or.inl ⟨by rfl, ?_⟩) hS ?_
         rotate_left
         · (intro w hSw; have hSw := (HSd.out w).1 hSw; go_split_ands; go_simp) <;> with_reducible rfl
         clear hS
         try simp only [Act.put, List.setIfInBounds_toArray, List.set_cons_zero, List.set_cons_succ]
         have hS := HSp.out _ bA bB
         refine wpAnyH_take (i := 7) (oi := { dst := some 16, op := Go.Op.extract (Go.Operand.tmp 9) 1, type := 2, pos := "exact.go:4053", after := #[{ on := 5, ground := Go.Ground.data }, { on := 9, ground := Go.Ground.gcOnly Go.Departure.lateStores }], guard := none }) (v := ?_) rfl (by kernel_rfl) (by kernel_rfl) (by kernel_rfl) (fun _ _ _ h => h) (Or.inl ⟨by rfl, ?_⟩) hS ?_
         rotate_left
         · (intro w hSw; have hSw := (HSd.out w).1 hSw; go_split_ands; go_simp) <;> with_reducible rfl
         clear hS
         try simp only [Act.put, List.setIfInBounds_toArray, List.set_cons_zero, List.set_cons_succ]
         refine wpAnyH_ready (rs := [9]) (by decide +kernel) (by simp) ?_
         refine AllReadyH.cons (o := { dst := none, op := Go.Op.store 34 (Go.Operand.tmp 5) (Go.Operand.tmp 15), type := 0, pos := "exact.go:4053", after := #[{ on := 8, ground := Go.Ground.data }, { on := 6, ground := Go.Ground.data }, { on := 4, ground := Go.Ground.chain }, { on := 0, ground := Go.Ground.phase }, { on := 1, ground := Go.Ground.phase }, { on := 2, ground := Go.Ground.phase }, { on := 3, ground := Go.Ground.phase }, { on := 4, ground := Go.Ground.phase }, { on := 5, ground := Go.Ground.phase }, { on := 6, ground := Go.Ground.phase }, { on := 7, ground := Go.Ground.textOnly Go.Departure.lateStores }, { on := 8, ground := Go.Ground.phase }], guard := none }) rfl (fun Kn hK => ?_) AllReadyH.nil
         have bn8_0 := bn8.cell 0 rfl
         have bn8_1 := bn8.cell 1 rfl
         have bn8_f0 := bn8.frozen 0
         have bn8_f1 := bn8.frozen 1
         have bn8_l := bn8.lt
         go_simp
         clear bn8_0 bn8_f0 bn8_1 bn8_f1 bn8_l
         generalize hX : World.setCell _ _ _ = V5
         have hb : Below W.heap.size W V5 := by rw [← hX]; exact ((HW.out.setCell (p := ⟨g8, 0, none⟩) le8 _).setCell (p := ⟨g8, 1, none⟩) le8 _)
         replace bA : Bk V5 (w.heap.size) #[.int .i64 a1, .int .i64 a2, .int .i64 a3, .int .i64 a4] 40 := by rw [← hX]; exact (Bk.other (Bk.other bA nebA_8 0 _) nebA_8 1 _)
         replace bB : Bk V5 (w.heap.size + 1) #[.int .i64 b1, .int .i64 b2, .int .i64 b3, .int .i64 b4] 40 := by rw [← hX]; exact (Bk.other (Bk.other bB nebB_8 0 _) nebB_8 1 _)
         replace bn8 : Bk V5 (g8) #[.int .i64 p, .int .i64 q] 34 := by rw [← hX]; exact (Bk.set (Bk.set bn8 0 _ rfl) 1 _ rfl)
         clear hX
         replace HW := Lib.hid hb
         clear hb
         refine hK.out _ _ (HSp.out _ bA bB) (fun _ => ?_)
         clear hK Kn)
    all_goals
      have hS := HSp.out _ bA bB
      refine wpAnyH_take (i := 10) (oi := { dst := some 6, op := Go.Op.assign (Go.Operand.tmp 16), type := 2, pos := "exact.go:4053", after := #[{ on := 7, ground := Go.Ground.data }, { on := 9, ground := Go.Ground.chain }, { on := 0, ground := Go.Ground.phase }, { on := 1, ground := Go.Ground.phase }, { on := 2, ground := Go.Ground.phase }, { on := 3, ground := Go.Ground.phase }, { on := 4, ground := Go.Ground.phase }, { on := 5, ground := Go.Ground.phase }, { on := 6, ground := Go.Ground.phase }, { on := 7, ground := Go.Ground.phase }, { on := 8, ground := Go.Ground.phase }, { on := 9, ground := Go.Ground.phase }], guard := none }) (v := ?_) rfl (by kernel_rfl) (by kernel_rfl) (by kernel_rfl) (fun _ _ _ h => h) (Or.inl ⟨by rfl, ?_⟩) hS ?_
      rotate_left
      · (intro w hSw; have hSw := (HSd.out w).1 hSw; go_split_ands; go_simp) <;> with_reducible rfl
      clear hS
      try simp only [Act.put, List.setIfInBounds_toArray, List.set_cons_zero, List.set_cons_succ]
      refine wpAnyH_done (by kernel_rfl) ?_ _
      go_wp2_with fail
      go_meet
      exact ⟨⟨_, rfl, rfl, bn8⟩, HW.out⟩
  case rest =>
    obtain ⟨hx, hb⟩ := hcut
    replace bA := bA.on hb
    replace bB := bB.on hb
    replace HB := Lib.hid (bel_end HB.out hb)
    clear hb
    obtain ⟨ga0, rfl, rfl, bRa0⟩ := hx
    obtain ⟨WCa, hWC⟩ : ∃ W, W = wc := ⟨_, rfl⟩
    skip
    have bA_0 := bA.cell 0 rfl
    have bA_1 := bA.cell 1 rfl
    have bA_2 := bA.cell 2 rfl
    have bA_3 := bA.cell 3 rfl
    have bA_l := bA.lt
    have bB_0 := bB.cell 0 rfl
    have bB_1 := bB.cell 1 rfl
    have bB_2 := bB.cell 2 rfl
    have bB_3 := bB.cell 3 rfl
    have bB_l := bB.lt
    have bRa0_0 := bRa0.cell 0 rfl
    have bRa0_1 := bRa0.cell 1 rfl
    have bRa0_l := bRa0.lt
    go_upto_region 2 with fail
    clear bA_0 bA_1 bA_2 bA_3 bA_l bB_0 bB_1 bB_2 bB_3 bB_l bRa0_0 bRa0_1 bRa0_l
    go_cut [7, 8] (fun s7 s8 wx => XR1 wx s7 s8 #[.int .i64 p, .int .i64 q] 34 (c) ∧ Below wc.heap.size wc wx)
    case first =>
      have HW : Hid (Below wc.heap.size wc wc) := Lib.hid (Below.refl _ _)
      obtain ⟨S, hSd⟩ : ∃ S : World → Prop, ∀ w', S w' ↔ (w'.cell? ⟨w.heap.size, 0, none⟩ = some (.int .i64 a1) ∧ w'.cell? ⟨w.heap.size, 1, none⟩ = some (.int .i64 a2) ∧ w'.cell? ⟨w.heap.size, 2, none⟩ = some (.int .i64 a3) ∧ w'.cell? ⟨w.heap.size, 3, none⟩ = some (.int .i64 a4) ∧ w'.cell? ⟨w.heap.size + 1, 0, none⟩ = some (.int .i64 b1) ∧ w'.cell? ⟨w.heap.size + 1, 1, none⟩ = some (.int .i64 b2) ∧ w'.cell? ⟨w.heap.size + 1, 2, none⟩ = some (.int .i64 b3) ∧ w'.cell? ⟨w.heap.size + 1, 3, none⟩ = some (.int .i64 b4)) := ⟨_, fun _ => Iff.rfl⟩
      have HSp : Hid (∀ w' : World, Bk w' (w.heap.size) #[.int .i64 a1, .int .i64 a2, .int .i64 a3, .int .i64 a4] 40 → Bk w' (w.heap.size + 1) #[.int .i64 b1, .int .i64 b2, .int .i64 b3, .int .i64 b4] 40 → S w') := Lib.hid (fun w' bA bB => (hSd w').2 ⟨bA.cell 0 rfl, bA.cell 1 rfl, bA.cell 2 rfl, bA.cell 3 rfl, bB.cell 0 rfl, bB.cell 1 rfl, bB.cell 2 rfl, bB.cell 3 rfl⟩)
      have HSd := Lib.hid hSd
      clear hSd
      refine wp_region_held_drew (S := S) (by kernel_rfl) ?_ (fun hH => ?_)
      · exact (HSp.out _ bA bB : S (World.drew wc))
      clear hH
      generalize hX : World.drew wc = V0
      replace bA : Bk V0 (w.heap.size) #[.int .i64 a1, .int .i64 a2, .int .i64 a3, .int .i64 a4] 40 := by rw [← hX]; exact bA
      replace bB : Bk V0 (w.heap.size + 1) #[.int .i64 b1, .int .i64 b2, .int .i64 b3, .int .i64 b4] 40 := by rw [← hX]; exact bB
      have hb : Below wc.heap.size wc V0 := by rw [← hX]; exact (Below.refl _ _).drew
      clear hX
      replace HW := Lib.hid (bel_end HW.out hb)
      clear hb
      have hS := HSp.out _ bA bB
      refine wpAnyH_take (i := 0) (oi := { dst := some 18, op := Go.Op.load 40 (Go.Operand.tmp 2), type := 40, pos := "exact.go:4054", after := #[], guard := none }) (v := ?_) rfl (by kernel_rfl) (by kernel_rfl) (by kernel_rfl) (fun _ _ _ h => h) (Or.inl ⟨by rfl, ?_⟩) hS ?_
      rotate_left
      · (intro w hSw; have hSw := (HSd.out w).1 hSw; go_split_ands; go_simp) <;> with_reducible rfl
      clear hS
      try simp only [Act.put, List.setIfInBounds_toArray, List.set_cons_zero, List.set_cons_succ]
      have hS := HSp.out _ bA bB
      refine wpAnyH_take (i := 2) (oi := { dst := some 20, op := Go.Op.load 40 (Go.Operand.tmp 3), type := 40, pos := "exact.go:4054", after := #[], guard := none }) (v := ?_) rfl (by kernel_rfl) (by kernel_rfl) (by kernel_rfl) (fun _ _ _ h => h) (Or.inl ⟨by rfl, ?_⟩) hS ?_
      rotate_left
      · (intro w hSw; have hSw := (HSd.out w).1 hSw; go_split_ands; go_simp) <;> with_reducible rfl
      clear hS
      try simp only [Act.put, List.setIfInBounds_toArray, List.set_cons_zero, List.set_cons_succ]
      refine wpAnyH_ready (rs := [1, 8]) (by decide +kernel) (by simp) ?_
      refine AllReadyH.cons (o := { dst := some 19, op := Go.Op.call { callee := Go.Callee.value (Go.Operand.func 27), args := #[Go.Operand.tmp 18], argTypes := #[40] }, type := 44, pos := "exact.go:4054", after := #[{ on := 0, ground := Go.Ground.data }], guard := none }) rfl (fun Kn hK => ?_) ?_
      first | go_at_call 27 | (go_simp; go_at_call 27)
      (with_reducible refine Calls.mono (ttk_any _ _ _ _ _) ?_)
      rintro e V1 ⟨rfl, hb⟩
      try dsimp only
      try simp only [Act.put, List.setIfInBounds_toArray, List.set_cons_zero, List.set_cons_succ]
      replace bA := bA.on hb
      replace bB := bB.on hb
      replace HW := Lib.hid (bel_end HW.out hb)
      clear hb
      refine hK.out _ _ (HSp.out _ bA bB) (fun _ => ?_)
      clear hK Kn
      rotate_left
      refine AllReadyH.cons (o := { dst := some 7, op := Go.Op.alloc 34, type := 0, pos := "exact.go:4054", after := #[], guard := none }) rfl (fun Kn hK => ?_) AllReadyH.nil
      go_simp
      generalize hX : World.alloc V0 _ = V1
      obtain ⟨g8, hg⟩ : ∃ g, g = V0.heap.size := ⟨_, rfl⟩
      have bn8 : Bk V1 g8 #[.int .i64 0, .int .i64 0] 34 := by rw [← hX]; exact Bk.new' hg
      have le8 : wc.heap.size ≤ g8 := by rw [hg]; exact HW.out.size
      have nebA_8 : w.heap.size ≠ g8 := by have := bA.lt; omega
      have nebB_8 : w.heap.size + 1 ≠ g8 := by have := bB.lt; omega
      try rw [← hg]
      have hb : Below V0.heap.size V0 V1 := by rw [← hX]; exact (Below.refl _ _).alloc (Nat.le_refl _) _
      clear hX hg
      replace bA := bA.on hb
      replace bB := bB.on hb
      replace HW := Lib.hid (bel_end HW.out hb)
      clear hb
      refine hK.out _ _ (HSp.out _ bA bB) (fun _ => ?_)
      clear hK Kn
      all_goals
        first
        | (refine wpAnyH_ready (rs := [3, 8]) (by decide +kernel) (by simp) ?_
           refine AllReadyH.cons (o := { dst := some 21, op := Go.Op.call { callee := Go.Callee.value (Go.Operand.func 27), args := #[Go.Operand.tmp 20], argTypes := #[40] }, type := 44, pos := "exact.go:4054", after := #[{ on := 2, ground := Go.Ground.data }, { on := 1, ground := Go.Ground.chain }], guard := none }) rfl (fun Kn hK => ?_) ?_
           first | go_at_call 27 | (go_simp; go_at_call 27)
           (with_reducible refine Calls.mono (ttk_any _ _ _ _ _) ?_)
           rintro e V2 ⟨rfl, hb⟩
           try dsimp only
           try simp only [Act.put, List.setIfInBounds_toArray, List.set_cons_zero, List.set_cons_succ]
           replace bA := bA.on hb
           replace bB := bB.on hb
           replace HW := Lib.hid (bel_end HW.out hb)
           clear hb
           refine hK.out _ _ (HSp.out _ bA bB) (fun _ => ?_)
           clear hK Kn
           rotate_left
           refine AllReadyH.cons (o := { dst := some 7, op := Go.Op.alloc 34, type := 0, pos := "exact.go:4054", after := #[], guard := none }) rfl (fun Kn hK => ?_) AllReadyH.nil
           go_simp
           generalize hX : World.alloc V1 _ = V2
           obtain ⟨g8, hg⟩ : ∃ g, g = V1.heap.size := ⟨_, rfl⟩
           have bn8 : Bk V2 g8 #[.int .i64 0, .int .i64 0] 34 := by rw [← hX]; exact Bk.new' hg
           have le8 : wc.heap.size ≤ g8 := by rw [hg]; exact HW.out.size
           have nebA_8 : w.heap.size ≠ g8 := by have := bA.lt; omega
           have nebB_8 : w.heap.size + 1 ≠ g8 := by have := bB.lt; omega
           try rw [← hg]
           have hb : Below V1.heap.size V1 V2 := by rw [← hX]; exact (Below.refl _ _).alloc (Nat.le_refl _) _
           clear hX hg
           replace bA := bA.on hb
           replace bB := bB.on hb
           replace HW := Lib.hid (bel_end HW.out hb)
           clear hb
           refine hK.out _ _ (HSp.out _ bA bB) (fun _ => ?_)
           clear hK Kn)
        | (refine wpAnyH_ready (rs := [1]) (by decide +kernel) (by simp) ?_
           refine AllReadyH.cons (o := { dst := some 19, op := Go.Op.call { callee := Go.Callee.value (Go.Operand.func 27), args := #[Go.Operand.tmp 18], argTypes := #[40] }, type := 44, pos := "exact.go:4054", after := #[{ on := 0, ground := Go.Ground.data }], guard := none }) rfl (fun Kn hK => ?_) AllReadyH.nil
           first | go_at_call 27 | (go_simp; go_at_call 27)
           (with_reducible refine Calls.mono (ttk_any _ _ _ _ _) ?_)
           rintro e V2 ⟨rfl, hb⟩
           try dsimp only
           try simp only [Act.put, List.setIfInBounds_toArray, List.set_cons_zero, List.set_cons_succ]
           replace bA := bA.on hb
           replace bB := bB.on hb
           replace bn8 := bn8.on hb
           replace HW := Lib.hid (bel_end HW.out hb)
           clear hb
           refine hK.out _ _ (HSp.out _ bA bB) (fun _ => ?_)
           clear hK Kn)
      all_goals
        first
        | (refine wpAnyH_ready (rs := [4, 8]) (by decide +kernel) (by simp) ?_
           refine AllReadyH.cons (o := { dst := some 22, op := Go.Op.call { callee := Go.Callee.value (Go.Operand.func 31), args := #[Go.Operand.tmp 19, Go.Operand.tmp 21], argTypes := #[44, 44] }, type := 48, pos := "exact.go:4054", after := #[{ on := 1, ground := Go.Ground.data }, { on := 3, ground := Go.Ground.data }, { on := 3, ground := Go.Ground.chain }], guard := none }) rfl (fun Kn hK => ?_) ?_
           first | go_at_call 31 | (go_simp; go_at_call 31)
           (with_reducible refine Calls.mono (S2.out _) ?_)
           rintro e V3 ⟨rfl, hb⟩
           try dsimp only
           try simp only [Act.put, List.setIfInBounds_toArray, List.set_cons_zero, List.set_cons_succ]
           replace bA := bA.on hb
           replace bB := bB.on hb
           replace HW := Lib.hid (bel_end HW.out hb)
           clear hb
           refine hK.out _ _ (HSp.out _ bA bB) (fun _ => ?_)
           clear hK Kn
           rotate_left
           refine AllReadyH.cons (o := { dst := some 7, op := Go.Op.alloc 34, type := 0, pos := "exact.go:4054", after := #[], guard := none }) rfl (fun Kn hK => ?_) AllReadyH.nil
           go_simp
           generalize hX : World.alloc V2 _ = V3
           obtain ⟨g8, hg⟩ : ∃ g, g = V2.heap.size := ⟨_, rfl⟩
           have bn8 : Bk V3 g8 #[.int .i64 0, .int .i64 0] 34 := by rw [← hX]; exact Bk.new' hg
           have le8 : wc.heap.size ≤ g8 := by rw [hg]; exact HW.out.size
           have nebA_8 : w.heap.size ≠ g8 := by have := bA.lt; omega
           have nebB_8 : w.heap.size + 1 ≠ g8 := by have := bB.lt; omega
           try rw [← hg]
           have hb : Below V2.heap.size V2 V3 := by rw [← hX]; exact (Below.refl _ _).alloc (Nat.le_refl _) _
           clear hX hg
           replace bA := bA.on hb
           replace bB := bB.on hb
           replace HW := Lib.hid (bel_end HW.out hb)
           clear hb
           refine hK.out _ _ (HSp.out _ bA bB) (fun _ => ?_)
           clear hK Kn)
        | (refine wpAnyH_ready (rs := [3]) (by decide +kernel) (by simp) ?_
           refine AllReadyH.cons (o := { dst := some 21, op := Go.Op.call { callee := Go.Callee.value (Go.Operand.func 27), args := #[Go.Operand.tmp 20], argTypes := #[40] }, type := 44, pos := "exact.go:4054", after := #[{ on := 2, ground := Go.Ground.data }, { on := 1, ground := Go.Ground.chain }], guard := none }) rfl (fun Kn hK => ?_) AllReadyH.nil
           first | go_at_call 27 | (go_simp; go_at_call 27)
           (with_reducible refine Calls.mono (ttk_any _ _ _ _ _) ?_)
           rintro e V3 ⟨rfl, hb⟩
           try dsimp only
           try simp only [Act.put, List.setIfInBounds_toArray, List.set_cons_zero, List.set_cons_succ]
           replace bA := bA.on hb
           replace bB := bB.on hb
           replace bn8 := bn8.on hb
           replace HW := Lib.hid (bel_end HW.out hb)
           clear hb
           refine hK.out _ _ (HSp.out _ bA bB) (fun _ => ?_)
           clear hK Kn)
      all_goals
        first
        | (have hS := HSp.out _ bA bB
           refine wpAnyH_take (i := 5) (oi := { dst := some 17, op := Go.Op.move (Go.Operand.tmp 22), type := 48, pos := "exact.go:4054", after := #[{ on := 4, ground := Go.Ground.data }], guard := none }) (v := ?_) rfl (by kernel_rfl) (by kernel_rfl) (by kernel_rfl) (fun _ _ _ h => h) (Or.inl ⟨by rfl, ?_⟩) hS ?_
           rotate_left
           · (intro w hSw; have hSw := (HSd.out w).1 hSw; go_split_ands; go_simp) <;> with_reducible rfl
           clear hS
           try simp only [Act.put, List.setIfInBounds_toArray, List.set_cons_zero, List.set_cons_succ]
           have hS := HSp.out _ bA bB
           refine wpAnyH_take (i := 6) (oi := { dst := some 23, op := Go.Op.extract (Go.Operand.tmp 17) 0, type := 34, pos := "exact.go:4054", after := #[{ on := 5, ground := Go.Ground.data }], guard := none }) (v := ?_) rfl (by kernel_rfl) (by kernel_rfl) (by kernel_rfl) (fun _ _ _ h => h) (Or.inl ⟨by rfl, ?_⟩) hS ?_
           rotate_left
           · (intro w hSw; have hSw := (HSd.out w).1 hSw; go_split_ands; go_simp) <;> with_reducible rfl
           clear hS
           try simp only [Act.put, List.setIfInBounds_toArray, List.set_cons_zero, List.set_cons_succ]
           have hS := HSp.out _ bA bB
           refine wpAnyH_take (i := 7) (oi := { dst := some 24, op := Go.Op.extract (Go.Operand.tmp 17) 1, type := 2, pos := "exact.go:4054", after := #[{ on := 5, ground := Go.Ground.data }, { on := 9, ground := Go.Ground.gcOnly Go.Departure.lateStores }], guard := none }) (v := ?_) rfl (by kernel_rfl) (by kernel_rfl) (by kernel_rfl) (fun _ _ _ h => h) (Or.inl ⟨by rfl, ?_⟩) hS ?_
           rotate_left
           · (intro w hSw; have hSw := (HSd.out w).1 hSw; go_split_ands; go_simp) <;> with_reducible rfl
           clear hS
           try simp only [Act.put, List.setIfInBounds_toArray, List.set_cons_zero, List.set_cons_succ]
           refine wpAnyH_ready (rs := [8]) (by decide +kernel) (by simp) ?_
           refine AllReadyH.cons (o := { dst := some 7, op := Go.Op.alloc 34, type := 0, pos := "exact.go:4054", after := #[], guard := none }) rfl (fun Kn hK => ?_) AllReadyH.nil
           go_simp
           generalize hX : World.alloc V3 _ = V4
           obtain ⟨g8, hg⟩ : ∃ g, g = V3.heap.size := ⟨_, rfl⟩
           have bn8 : Bk V4 g8 #[.int .i64 0, .int .i64 0] 34 := by rw [← hX]; exact Bk.new' hg
           have le8 : wc.heap.size ≤ g8 := by rw [hg]; exact HW.out.size
           have nebA_8 : w.heap.size ≠ g8 := by have := bA.lt; omega
           have nebB_8 : w.heap.size + 1 ≠ g8 := by have := bB.lt; omega
           try rw [← hg]
           have hb : Below V3.heap.size V3 V4 := by rw [← hX]; exact (Below.refl _ _).alloc (Nat.le_refl _) _
           clear hX hg
           replace bA := bA.on hb
           replace bB := bB.on hb
           replace HW := Lib.hid (bel_end HW.out hb)
           clear hb
           refine hK.out _ _ (HSp.out _ bA bB) (fun _ => ?_)
           clear hK Kn)
        | (refine wpAnyH_ready (rs := [4]) (by decide +kernel) (by simp) ?_
           refine AllReadyH.cons (o := { dst := some 22, op := Go.Op.call { callee := Go.Callee.value (Go.Operand.func 31), args := #[Go.Operand.tmp 19, Go.Operand.tmp 21], argTypes := #[44, 44] }, type := 48, pos := "exact.go:4054", after := #[{ on := 1, ground := Go.Ground.data }, { on := 3, ground := Go.Ground.data }, { on := 3, ground := Go.Ground.chain }], guard := none }) rfl (fun Kn hK => ?_) AllReadyH.nil
           first | go_at_call 31 | (go_simp; go_at_call 31)
           (with_reducible refine Calls.mono (S2.out _) ?_)
           rintro e V4 ⟨rfl, hb⟩
           try dsimp only
           try simp only [Act.put, List.setIfInBounds_toArray, List.set_cons_zero, List.set_cons_succ]
           replace bA := bA.on hb
           replace bB := bB.on hb
           replace bn8 := bn8.on hb
           replace HW := Lib.hid (bel_end HW.out hb)
           clear hb
           refine hK.out _ _ (HSp.out _ bA bB) (fun _ => ?_)
           clear hK Kn)
      all_goals
        first
        | (refine wpAnyH_ready (rs := [9]) (by decide +kernel) (by simp) ?_
           refine AllReadyH.cons (o := { dst := none, op := Go.Op.store 34 (Go.Operand.tmp 7) (Go.Operand.tmp 23), type := 0, pos := "exact.go:4054", after := #[{ on := 8, ground := Go.Ground.data }, { on := 6, ground := Go.Ground.data }, { on := 4, ground := Go.Ground.chain }, { on := 0, ground := Go.Ground.phase }, { on := 1, ground := Go.Ground.phase }, { on := 2, ground := Go.Ground.phase }, { on := 3, ground := Go.Ground.phase }, { on := 4, ground := Go.Ground.phase }, { on := 5, ground := Go.Ground.phase }, { on := 6, ground := Go.Ground.phase }, { on := 7, ground := Go.Ground.textOnly Go.Departure.lateStores }, { on := 8, ground := Go.Ground.phase }], guard := none }) rfl (fun Kn hK => ?_) AllReadyH.nil
           have bn8_0 := bn8.cell 0 rfl
           have bn8_1 := bn8.cell 1 rfl
           have bn8_f0 := bn8.frozen 0
           have bn8_f1 := bn8.frozen 1
           have bn8_l := bn8.lt
           go_simp
           clear bn8_0 bn8_f0 bn8_1 bn8_f1 bn8_l
           generalize hX : World.setCell _ _ _ = V5
           have hb : Below wc.heap.size wc V5 := by rw [← hX]; exact ((HW.out.setCell (p := ⟨g8, 0, none⟩) le8 _).setCell (p := ⟨g8, 1, none⟩) le8 _)
           replace bA : Bk V5 (w.heap.size) #[.int .i64 a1, .int .i64 a2, .int .i64 a3, .int .i64 a4] 40 := by rw [← hX]; exact (Bk.other (Bk.other bA nebA_8 0 _) nebA_8 1 _)
           replace bB : Bk V5 (w.heap.size + 1) #[.int .i64 b1, .int .i64 b2, .int .i64 b3, .int .i64 b4] 40 := by rw [← hX]; exact (Bk.other (Bk.other bB nebB_8 0 _) nebB_8 1 _)
           replace bn8 : Bk V5 (g8) #[.int .i64 p, .int .i64 q] 34 := by rw [← hX]; exact (Bk.set (Bk.set bn8 0 _ rfl) 1 _ rfl)
           clear hX
           replace HW := Lib.hid hb
           clear hb
           refine hK.out _ _ (HSp.out _ bA bB) (fun _ => ?_)
           clear hK Kn)
        | (have hS := HSp.out _ bA bB
           refine wpAnyH_take (i := 5) (oi := { dst := some 17, op := Go.Op.move (Go.Operand.tmp 22), type := 48, pos := "exact.go:4054", after := #[{ on := 4, ground := Go.Ground.data }], guard := none }) (v := ?_) rfl (by kernel_rfl) (by kernel_rfl) (by kernel_rfl) (fun _ _ _ h => h) (Or.inl ⟨by rfl, ?_⟩) hS ?_
           rotate_left
           · (intro w hSw; have hSw := (HSd.out w).1 hSw; go_split_ands; go_simp) <;> with_reducible rfl
           clear hS
           try simp only [Act.put, List.setIfInBounds_toArray, List.set_cons_zero, List.set_cons_succ]
           have hS := HSp.out _ bA bB
           refine wpAnyH_take (i := 6) (oi := { dst := some 23, op := Go.Op.extract (Go.Operand.tmp 17) 0, type := 34, pos := "exact.go:4054", after := #[{ on := 5, ground := Go.Ground.data }], guard := none }) (v := ?_) rfl (by kernel_rfl) (by kernel_rfl) (by kernel_rfl) (fun _ _ _ h => h) (Or.inl ⟨by rfl, ?_⟩) hS ?_
           rotate_left
           · (intro w hSw; have hSw := (HSd.out w).1 hSw; go_split_ands; go_simp) <;> with_reducible rfl
           clear hS
           try simp only [Act.put, List.setIfInBounds_toArray, List.set_cons_zero, List.set_cons_succ]
           have hS := HSp.out _ bA bB
           refine wpAnyH_take (i := 7) (oi := { dst := some 24, op := Go.Op.extract (Go.Operand.tmp 17) 1, type := 2, pos := "exact.go:4054", after := #[{ on := 5, ground := Go.Ground.data }, { on := 9, ground := Go.Ground.gcOnly Go.Departure.lateStores }], guard := none }) (v := ?_) rfl (by kernel_rfl) (by kernel_rfl) (by kernel_rfl) (fun _ _ _ h => h) (Or.inl ⟨by rfl, ?_⟩) hS ?_
           rotate_left
           · (intro w hSw; have hSw := (HSd.out w).1 hSw; go_split_ands; go_simp) <;> with_reducible rfl
           clear hS
           try simp only [Act.put, List.setIfInBounds_toArray, List.set_cons_zero, List.set_cons_succ]
           refine wpAnyH_ready (rs := [9]) (by decide +kernel) (by simp) ?_
           refine AllReadyH.cons (o := { dst := none, op := Go.Op.store 34 (Go.Operand.tmp 7) (Go.Operand.tmp 23), type := 0, pos := "exact.go:4054", after := #[{ on := 8, ground := Go.Ground.data }, { on := 6, ground := Go.Ground.data }, { on := 4, ground := Go.Ground.chain }, { on := 0, ground := Go.Ground.phase }, { on := 1, ground := Go.Ground.phase }, { on := 2, ground := Go.Ground.phase }, { on := 3, ground := Go.Ground.phase }, { on := 4, ground := Go.Ground.phase }, { on := 5, ground := Go.Ground.phase }, { on := 6, ground := Go.Ground.phase }, { on := 7, ground := Go.Ground.textOnly Go.Departure.lateStores }, { on := 8, ground := Go.Ground.phase }], guard := none }) rfl (fun Kn hK => ?_) AllReadyH.nil
           have bn8_0 := bn8.cell 0 rfl
           have bn8_1 := bn8.cell 1 rfl
           have bn8_f0 := bn8.frozen 0
           have bn8_f1 := bn8.frozen 1
           have bn8_l := bn8.lt
           go_simp
           clear bn8_0 bn8_f0 bn8_1 bn8_f1 bn8_l
           generalize hX : World.setCell _ _ _ = V5
           have hb : Below wc.heap.size wc V5 := by rw [← hX]; exact ((HW.out.setCell (p := ⟨g8, 0, none⟩) le8 _).setCell (p := ⟨g8, 1, none⟩) le8 _)
           replace bA : Bk V5 (w.heap.size) #[.int .i64 a1, .int .i64 a2, .int .i64 a3, .int .i64 a4] 40 := by rw [← hX]; exact (Bk.other (Bk.other bA nebA_8 0 _) nebA_8 1 _)
           replace bB : Bk V5 (w.heap.size + 1) #[.int .i64 b1, .int .i64 b2, .int .i64 b3, .int .i64 b4] 40 := by rw [← hX]; exact (Bk.other (Bk.other bB nebB_8 0 _) nebB_8 1 _)
           replace bn8 : Bk V5 (g8) #[.int .i64 p, .int .i64 q] 34 := by rw [← hX]; exact (Bk.set (Bk.set bn8 0 _ rfl) 1 _ rfl)
           clear hX
           replace HW := Lib.hid hb
           clear hb
           refine hK.out _ _ (HSp.out _ bA bB) (fun _ => ?_)
           clear hK Kn)
      all_goals
        have hS := HSp.out _ bA bB
        refine wpAnyH_take (i := 10) (oi := { dst := some 8, op := Go.Op.assign (Go.Operand.tmp 24), type := 2, pos := "exact.go:4054", after := #[{ on := 7, ground := Go.Ground.data }, { on := 9, ground := Go.Ground.chain }, { on := 0, ground := Go.Ground.phase }, { on := 1, ground := Go.Ground.phase }, { on := 2, ground := Go.Ground.phase }, { on := 3, ground := Go.Ground.phase }, { on := 4, ground := Go.Ground.phase }, { on := 5, ground := Go.Ground.phase }, { on := 6, ground := Go.Ground.phase }, { on := 7, ground := Go.Ground.phase }, { on := 8, ground := Go.Ground.phase }, { on := 9, ground := Go.Ground.phase }], guard := none }) (v := ?_) rfl (by kernel_rfl) (by kernel_rfl) (by kernel_rfl) (fun _ _ _ h => h) (Or.inl ⟨by rfl, ?_⟩) hS ?_
        rotate_left
        · (intro w hSw; have hSw := (HSd.out w).1 hSw; go_split_ands; go_simp) <;> with_reducible rfl
        clear hS
        try simp only [Act.put, List.setIfInBounds_toArray, List.set_cons_zero, List.set_cons_succ]
        refine wpAnyH_done (by kernel_rfl) ?_ _
        go_wp2_with fail
        go_meet
        exact ⟨⟨_, rfl, rfl, bn8⟩, HW.out⟩
    case rest =>
      obtain ⟨hx, hb⟩ := hcut
      replace bA := bA.on hb
      replace bB := bB.on hb
      replace bRa0 := bRa0.on hb
      replace HB := Lib.hid (bel_end HB.out hb)
      clear hb
      obtain ⟨gb0, rfl, rfl, bRb0⟩ := hx
      obtain ⟨WCb, hWC⟩ : ∃ W, W = wc := ⟨_, rfl⟩
      skip
      have bA_0 := bA.cell 0 rfl
      have bA_1 := bA.cell 1 rfl
      have bA_2 := bA.cell 2 rfl
      have bA_3 := bA.cell 3 rfl
      have bA_l := bA.lt
      have bB_0 := bB.cell 0 rfl
      have bB_1 := bB.cell 1 rfl
      have bB_2 := bB.cell 2 rfl
      have bB_3 := bB.cell 3 rfl
      have bB_l := bB.lt
      have bRa0_0 := bRa0.cell 0 rfl
      have bRa0_1 := bRa0.cell 1 rfl
      have bRa0_l := bRa0.lt
      have bRb0_0 := bRb0.cell 0 rfl
      have bRb0_1 := bRb0.cell 1 rfl
      have bRb0_l := bRb0.lt
      go_wp2_with fail
      clear bA_0 bA_1 bA_2 bA_3 bA_l bB_0 bB_1 bB_2 bB_3 bB_l bRa0_0 bRa0_1 bRa0_l bRb0_0 bRb0_1 bRb0_l
      refine (eqr_any _ _ _ _ _).mono ?_
      simp only [beq_self_eq_true, Bool.and_self]
      rintro e we0 ⟨rfl, hb⟩
      replace bA := bA.on hb
      replace bB := bB.on hb
      replace bRa0 := bRa0.on hb
      replace bRb0 := bRb0.on hb
      replace HB := Lib.hid (bel_end HB.out hb)
      clear hb
      have bA_0 := bA.cell 0 rfl
      have bA_1 := bA.cell 1 rfl
      have bA_2 := bA.cell 2 rfl
      have bA_3 := bA.cell 3 rfl
      have bA_l := bA.lt
      have bB_0 := bB.cell 0 rfl
      have bB_1 := bB.cell 1 rfl
      have bB_2 := bB.cell 2 rfl
      have bB_3 := bB.cell 3 rfl
      have bB_l := bB.lt
      have bRa0_0 := bRa0.cell 0 rfl
      have bRa0_1 := bRa0.cell 1 rfl
      have bRa0_l := bRa0.lt
      have bRb0_0 := bRb0.cell 0 rfl
      have bRb0_1 := bRb0.cell 1 rfl
      have bRb0_l := bRb0.lt
      go_wp2
      go_ret
      exact ⟨rfl, HB.out⟩

set_option maxRecDepth 100000 in
set_option maxHeartbeats 8000000 in
theorem lcls2 (a1 a2 a3 a4 b1 b2 b3 b4 : Int) (w : World) :
    Calls Try.prog 9 #[.agg #[.int .i64 a1, .int .i64 a2, .int .i64 a3, .int .i64 a4], .agg #[.int .i64 b1, .int .i64 b2, .int .i64 b3, .int .i64 b4]] w fun e w' => e = .returned (.bool true) ∧ Below w.heap.size w w' := by
  obtain ⟨⟨p, q, c⟩, hT⟩ : ∃ qq, csR a1 a2 a3 a4 b1 b2 b3 b4 = qq := ⟨_, rfl⟩
  have S1 : Hid (∀ W : World, Calls Try.prog 32 #[.agg #[.int .i64 a1, .int .i64 a2, .int .i64 a3, .int .i64 a4], .agg #[.int .i64 b1, .int .i64 b2, .int .i64 b3, .int .i64 b4]] W fun e w' => e = .returned (.tuple #[.agg #[.int .i64 p, .int .i64 q], .int .i64 c]) ∧ Below W.heap.size W w') := Lib.hid (fun W => by have := scs_any W a1 a2 a3 a4 b1 b2 b3 b4; rwa [hT] at this)
  have S2 : Hid (∀ W : World, Calls Try.prog 33 #[.agg #[.int .i64 a1, .int .i64 a2, .int .i64 a3, .int .i64 a4], .agg #[.int .i64 b1, .int .i64 b2, .int .i64 b3, .int .i64 b4]] W fun e w' => e = .returned (.tuple #[.agg #[.int .i64 p, .int .i64 q], .int .i64 c]) ∧ Below W.heap.size W w') := Lib.hid (fun W => by have := ics_any W a1 a2 a3 a4 b1 b2 b3 b4; rwa [hT] at this)
  clear hT
  go_enter Try.func9, Try.ntmps9
  go_upto_region 1 with fail
  generalize hW : World.alloc _ _ = W
  have bA : Bk W (w.heap.size) #[.int .i64 a1, .int .i64 a2, .int .i64 a3, .int .i64 a4] 40 := by rw [← hW]; repeat (first | (refine Bk.new' ?_; (simp; done)) | refine Bk.alloc ?_ _)
  have bB : Bk W (w.heap.size + 1) #[.int .i64 b1, .int .i64 b2, .int .i64 b3, .int .i64 b4] 40 := by rw [← hW]; repeat (first | (refine Bk.new' ?_; (simp; done)) | refine Bk.alloc ?_ _)
  have HB : Hid (Below w.heap.size w W) := Lib.hid (by rw [← hW]; exact (by repeat (first | exact Below.refl _ _ | (refine Below.alloc ?_ (by simp <;> omega) _) | (refine Below.setCell ?_ (by simp <;> omega) _) | (refine Below.drew ?_) | (refine bel_drewN ?_ _))))
  clear hW
  have bA_0 := bA.cell 0 rfl
  have bA_1 := bA.cell 1 rfl
  have bA_2 := bA.cell 2 rfl
  have bA_3 := bA.cell 3 rfl
  have bA_l := bA.lt
  have bB_0 := bB.cell 0 rfl
  have bB_1 := bB.cell 1 rfl
  have bB_2 := bB.cell 2 rfl
  have bB_3 := bB.cell 3 rfl
  have bB_l := bB.lt
  go_upto_region 1 with fail
  clear bA_0 bA_1 bA_2 bA_3 bA_l bB_0 bB_1 bB_2 bB_3 bB_l
  go_cut [5, 6] (fun s5 s6 wx => XR1 wx s5 s6 #[.int .i64 p, .int .i64 q] 34 (c) ∧ Below W.heap.size W wx)
  case first =>
    have HW : Hid (Below W.heap.size W W) := Lib.hid (Below.refl _ _)
    obtain ⟨S, hSd⟩ : ∃ S : World → Prop, ∀ w', S w' ↔ (w'.cell? ⟨w.heap.size, 0, none⟩ = some (.int .i64 a1) ∧ w'.cell? ⟨w.heap.size, 1, none⟩ = some (.int .i64 a2) ∧ w'.cell? ⟨w.heap.size, 2, none⟩ = some (.int .i64 a3) ∧ w'.cell? ⟨w.heap.size, 3, none⟩ = some (.int .i64 a4) ∧ w'.cell? ⟨w.heap.size + 1, 0, none⟩ = some (.int .i64 b1) ∧ w'.cell? ⟨w.heap.size + 1, 1, none⟩ = some (.int .i64 b2) ∧ w'.cell? ⟨w.heap.size + 1, 2, none⟩ = some (.int .i64 b3) ∧ w'.cell? ⟨w.heap.size + 1, 3, none⟩ = some (.int .i64 b4)) := ⟨_, fun _ => Iff.rfl⟩
    have HSp : Hid (∀ w' : World, Bk w' (w.heap.size) #[.int .i64 a1, .int .i64 a2, .int .i64 a3, .int .i64 a4] 40 → Bk w' (w.heap.size + 1) #[.int .i64 b1, .int .i64 b2, .int .i64 b3, .int .i64 b4] 40 → S w') := Lib.hid (fun w' bA bB => (hSd w').2 ⟨bA.cell 0 rfl, bA.cell 1 rfl, bA.cell 2 rfl, bA.cell 3 rfl, bB.cell 0 rfl, bB.cell 1 rfl, bB.cell 2 rfl, bB.cell 3 rfl⟩)
    have HSd := Lib.hid hSd
    clear hSd
    refine wp_region_held_drew (S := S) (by kernel_rfl) ?_ (fun hH => ?_)
    · exact (HSp.out _ bA bB : S (World.drew W))
    clear hH
    generalize hX : World.drew W = V0
    replace bA : Bk V0 (w.heap.size) #[.int .i64 a1, .int .i64 a2, .int .i64 a3, .int .i64 a4] 40 := by rw [← hX]; exact bA
    replace bB : Bk V0 (w.heap.size + 1) #[.int .i64 b1, .int .i64 b2, .int .i64 b3, .int .i64 b4] 40 := by rw [← hX]; exact bB
    have hb : Below W.heap.size W V0 := by rw [← hX]; exact (Below.refl _ _).drew
    clear hX
    replace HW := Lib.hid (bel_end HW.out hb)
    clear hb
    have hS := HSp.out _ bA bB
    refine wpAnyH_take (i := 0) (oi := { dst := some 10, op := Go.Op.load 40 (Go.Operand.tmp 2), type := 40, pos := "exact.go:4063", after := #[], guard := none }) (v := ?_) rfl (by kernel_rfl) (by kernel_rfl) (by kernel_rfl) (fun _ _ _ h => h) (Or.inl ⟨by rfl, ?_⟩) hS ?_
    rotate_left
    · (intro w hSw; have hSw := (HSd.out w).1 hSw; go_split_ands; go_simp) <;> with_reducible rfl
    clear hS
    try simp only [Act.put, List.setIfInBounds_toArray, List.set_cons_zero, List.set_cons_succ]
    have hS := HSp.out _ bA bB
    refine wpAnyH_take (i := 2) (oi := { dst := some 12, op := Go.Op.load 40 (Go.Operand.tmp 3), type := 40, pos := "exact.go:4063", after := #[], guard := none }) (v := ?_) rfl (by kernel_rfl) (by kernel_rfl) (by kernel_rfl) (fun _ _ _ h => h) (Or.inl ⟨by rfl, ?_⟩) hS ?_
    rotate_left
    · (intro w hSw; have hSw := (HSd.out w).1 hSw; go_split_ands; go_simp) <;> with_reducible rfl
    clear hS
    try simp only [Act.put, List.setIfInBounds_toArray, List.set_cons_zero, List.set_cons_succ]
    refine wpAnyH_ready (rs := [1, 8]) (by decide +kernel) (by simp) ?_
    refine AllReadyH.cons (o := { dst := some 11, op := Go.Op.call { callee := Go.Callee.value (Go.Operand.func 27), args := #[Go.Operand.tmp 10], argTypes := #[40] }, type := 44, pos := "exact.go:4063", after := #[{ on := 0, ground := Go.Ground.data }], guard := none }) rfl (fun Kn hK => ?_) ?_
    first | go_at_call 27 | (go_simp; go_at_call 27)
    (with_reducible refine Calls.mono (ttk_any _ _ _ _ _) ?_)
    rintro e V1 ⟨rfl, hb⟩
    try dsimp only
    try simp only [Act.put, List.setIfInBounds_toArray, List.set_cons_zero, List.set_cons_succ]
    replace bA := bA.on hb
    replace bB := bB.on hb
    replace HW := Lib.hid (bel_end HW.out hb)
    clear hb
    refine hK.out _ _ (HSp.out _ bA bB) (fun _ => ?_)
    clear hK Kn
    rotate_left
    refine AllReadyH.cons (o := { dst := some 5, op := Go.Op.alloc 34, type := 0, pos := "exact.go:4063", after := #[], guard := none }) rfl (fun Kn hK => ?_) AllReadyH.nil
    go_simp
    generalize hX : World.alloc V0 _ = V1
    obtain ⟨g8, hg⟩ : ∃ g, g = V0.heap.size := ⟨_, rfl⟩
    have bn8 : Bk V1 g8 #[.int .i64 0, .int .i64 0] 34 := by rw [← hX]; exact Bk.new' hg
    have le8 : W.heap.size ≤ g8 := by rw [hg]; exact HW.out.size
    have nebA_8 : w.heap.size ≠ g8 := by have := bA.lt; omega
    have nebB_8 : w.heap.size + 1 ≠ g8 := by have := bB.lt; omega
    try rw [← hg]
    have hb : Below V0.heap.size V0 V1 := by rw [← hX]; exact (Below.refl _ _).alloc (Nat.le_refl _) _
    clear hX hg
    replace bA := bA.on hb
    replace bB := bB.on hb
    replace HW := Lib.hid (bel_end HW.out hb)
    clear hb
    refine hK.out _ _ (HSp.out _ bA bB) (fun _ => ?_)
    clear hK Kn
    all_goals
      first
      | (refine wpAnyH_ready (rs := [3, 8]) (by decide +kernel) (by simp) ?_
         refine AllReadyH.cons (o := { dst := some 13, op := Go.Op.call { callee := Go.Callee.value (Go.Operand.func 27), args := #[Go.Operand.tmp 12], argTypes := #[40] }, type := 44, pos := "exact.go:4063", after := #[{ on := 2, ground := Go.Ground.data }, { on := 1, ground := Go.Ground.chain }], guard := none }) rfl (fun Kn hK => ?_) ?_
         first | go_at_call 27 | (go_simp; go_at_call 27)
         (with_reducible refine Calls.mono (ttk_any _ _ _ _ _) ?_)
         rintro e V2 ⟨rfl, hb⟩
         try dsimp only
         try simp only [Act.put, List.setIfInBounds_toArray, List.set_cons_zero, List.set_cons_succ]
         replace bA := bA.on hb
         replace bB := bB.on hb
         replace HW := Lib.hid (bel_end HW.out hb)
         clear hb
         refine hK.out _ _ (HSp.out _ bA bB) (fun _ => ?_)
         clear hK Kn
         rotate_left
         refine AllReadyH.cons (o := { dst := some 5, op := Go.Op.alloc 34, type := 0, pos := "exact.go:4063", after := #[], guard := none }) rfl (fun Kn hK => ?_) AllReadyH.nil
         go_simp
         generalize hX : World.alloc V1 _ = V2
         obtain ⟨g8, hg⟩ : ∃ g, g = V1.heap.size := ⟨_, rfl⟩
         have bn8 : Bk V2 g8 #[.int .i64 0, .int .i64 0] 34 := by rw [← hX]; exact Bk.new' hg
         have le8 : W.heap.size ≤ g8 := by rw [hg]; exact HW.out.size
         have nebA_8 : w.heap.size ≠ g8 := by have := bA.lt; omega
         have nebB_8 : w.heap.size + 1 ≠ g8 := by have := bB.lt; omega
         try rw [← hg]
         have hb : Below V1.heap.size V1 V2 := by rw [← hX]; exact (Below.refl _ _).alloc (Nat.le_refl _) _
         clear hX hg
         replace bA := bA.on hb
         replace bB := bB.on hb
         replace HW := Lib.hid (bel_end HW.out hb)
         clear hb
         refine hK.out _ _ (HSp.out _ bA bB) (fun _ => ?_)
         clear hK Kn)
      | (refine wpAnyH_ready (rs := [1]) (by decide +kernel) (by simp) ?_
         refine AllReadyH.cons (o := { dst := some 11, op := Go.Op.call { callee := Go.Callee.value (Go.Operand.func 27), args := #[Go.Operand.tmp 10], argTypes := #[40] }, type := 44, pos := "exact.go:4063", after := #[{ on := 0, ground := Go.Ground.data }], guard := none }) rfl (fun Kn hK => ?_) AllReadyH.nil
         first | go_at_call 27 | (go_simp; go_at_call 27)
         (with_reducible refine Calls.mono (ttk_any _ _ _ _ _) ?_)
         rintro e V2 ⟨rfl, hb⟩
         try dsimp only
         try simp only [Act.put, List.setIfInBounds_toArray, List.set_cons_zero, List.set_cons_succ]
         replace bA := bA.on hb
         replace bB := bB.on hb
         replace bn8 := bn8.on hb
         replace HW := Lib.hid (bel_end HW.out hb)
         clear hb
         refine hK.out _ _ (HSp.out _ bA bB) (fun _ => ?_)
         clear hK Kn)
    all_goals
      first
      | (refine wpAnyH_ready (rs := [4, 8]) (by decide +kernel) (by simp) ?_
         refine AllReadyH.cons (o := { dst := some 14, op := Go.Op.call { callee := Go.Callee.value (Go.Operand.func 32), args := #[Go.Operand.tmp 11, Go.Operand.tmp 13], argTypes := #[44, 44] }, type := 48, pos := "exact.go:4063", after := #[{ on := 1, ground := Go.Ground.data }, { on := 3, ground := Go.Ground.data }, { on := 3, ground := Go.Ground.chain }], guard := none }) rfl (fun Kn hK => ?_) ?_
         first | go_at_call 32 | (go_simp; go_at_call 32)
         (with_reducible refine Calls.mono (S1.out _) ?_)
         rintro e V3 ⟨rfl, hb⟩
         try dsimp only
         try simp only [Act.put, List.setIfInBounds_toArray, List.set_cons_zero, List.set_cons_succ]
         replace bA := bA.on hb
         replace bB := bB.on hb
         replace HW := Lib.hid (bel_end HW.out hb)
         clear hb
         refine hK.out _ _ (HSp.out _ bA bB) (fun _ => ?_)
         clear hK Kn
         rotate_left
         refine AllReadyH.cons (o := { dst := some 5, op := Go.Op.alloc 34, type := 0, pos := "exact.go:4063", after := #[], guard := none }) rfl (fun Kn hK => ?_) AllReadyH.nil
         go_simp
         generalize hX : World.alloc V2 _ = V3
         obtain ⟨g8, hg⟩ : ∃ g, g = V2.heap.size := ⟨_, rfl⟩
         have bn8 : Bk V3 g8 #[.int .i64 0, .int .i64 0] 34 := by rw [← hX]; exact Bk.new' hg
         have le8 : W.heap.size ≤ g8 := by rw [hg]; exact HW.out.size
         have nebA_8 : w.heap.size ≠ g8 := by have := bA.lt; omega
         have nebB_8 : w.heap.size + 1 ≠ g8 := by have := bB.lt; omega
         try rw [← hg]
         have hb : Below V2.heap.size V2 V3 := by rw [← hX]; exact (Below.refl _ _).alloc (Nat.le_refl _) _
         clear hX hg
         replace bA := bA.on hb
         replace bB := bB.on hb
         replace HW := Lib.hid (bel_end HW.out hb)
         clear hb
         refine hK.out _ _ (HSp.out _ bA bB) (fun _ => ?_)
         clear hK Kn)
      | (refine wpAnyH_ready (rs := [3]) (by decide +kernel) (by simp) ?_
         refine AllReadyH.cons (o := { dst := some 13, op := Go.Op.call { callee := Go.Callee.value (Go.Operand.func 27), args := #[Go.Operand.tmp 12], argTypes := #[40] }, type := 44, pos := "exact.go:4063", after := #[{ on := 2, ground := Go.Ground.data }, { on := 1, ground := Go.Ground.chain }], guard := none }) rfl (fun Kn hK => ?_) AllReadyH.nil
         first | go_at_call 27 | (go_simp; go_at_call 27)
         (with_reducible refine Calls.mono (ttk_any _ _ _ _ _) ?_)
         rintro e V3 ⟨rfl, hb⟩
         try dsimp only
         try simp only [Act.put, List.setIfInBounds_toArray, List.set_cons_zero, List.set_cons_succ]
         replace bA := bA.on hb
         replace bB := bB.on hb
         replace bn8 := bn8.on hb
         replace HW := Lib.hid (bel_end HW.out hb)
         clear hb
         refine hK.out _ _ (HSp.out _ bA bB) (fun _ => ?_)
         clear hK Kn)
    all_goals
      first
      | (have hS := HSp.out _ bA bB
         refine wpAnyH_take (i := 5) (oi := { dst := some 9, op := Go.Op.move (Go.Operand.tmp 14), type := 48, pos := "exact.go:4063", after := #[{ on := 4, ground := Go.Ground.data }], guard := none }) (v := ?_) rfl (by kernel_rfl) (by kernel_rfl) (by kernel_rfl) (fun _ _ _ h => h) (Or.inl ⟨by rfl, ?_⟩) hS ?_
         rotate_left
         · (intro w hSw; have hSw := (HSd.out w).1 hSw; go_split_ands; go_simp) <;> with_reducible rfl
         clear hS
         try simp only [Act.put, List.setIfInBounds_toArray, List.set_cons_zero, List.set_cons_succ]
         have hS := HSp.out _ bA bB
         refine wpAnyH_take (i := 6) (oi := { dst := some 15, op := Go.Op.extract (Go.Operand.tmp 9) 0, type := 34, pos := "exact.go:4063", after := #[{ on := 5, ground := Go.Ground.data }], guard := none }) (v := ?_) rfl (by kernel_rfl) (by kernel_rfl) (by kernel_rfl) (fun _ _ _ h => h) (Or.inl ⟨by rfl, ?_⟩) hS ?_
         rotate_left
         · (intro w hSw; have hSw := (HSd.out w).1 hSw; go_split_ands; go_simp) <;> with_reducible rfl
         clear hS
         try simp only [Act.put, List.setIfInBounds_toArray, List.set_cons_zero, List.set_cons_succ]
         have hS := HSp.out _ bA bB
         refine wpAnyH_take (i := 7) (oi := { dst := some 16, op := Go.Op.extract (Go.Operand.tmp 9) 1, type := 2, pos := "exact.go:4063", after := #[{ on := 5, ground := Go.Ground.data }, { on := 9, ground := Go.Ground.gcOnly Go.Departure.lateStores }], guard := none }) (v := ?_) rfl (by kernel_rfl) (by kernel_rfl) (by kernel_rfl) (fun _ _ _ h => h) (Or.inl ⟨by rfl, ?_⟩) hS ?_
         rotate_left
         · (intro w hSw; have hSw := (HSd.out w).1 hSw; go_split_ands; go_simp) <;> with_reducible rfl
         clear hS
         try simp only [Act.put, List.setIfInBounds_toArray, List.set_cons_zero, List.set_cons_succ]
         refine wpAnyH_ready (rs := [8]) (by decide +kernel) (by simp) ?_
         refine AllReadyH.cons (o := { dst := some 5, op := Go.Op.alloc 34, type := 0, pos := "exact.go:4063", after := #[], guard := none }) rfl (fun Kn hK => ?_) AllReadyH.nil
         go_simp
         generalize hX : World.alloc V3 _ = V4
         obtain ⟨g8, hg⟩ : ∃ g, g = V3.heap.size := ⟨_, rfl⟩
         have bn8 : Bk V4 g8 #[.int .i64 0, .int .i64 0] 34 := by rw [← hX]; exact Bk.new' hg
         have le8 : W.heap.size ≤ g8 := by rw [hg]; exact HW.out.size
         have nebA_8 : w.heap.size ≠ g8 := by have := bA.lt; omega
         have nebB_8 : w.heap.size + 1 ≠ g8 := by have := bB.lt; omega
         try rw [← hg]
         have hb : Below V3.heap.size V3 V4 := by rw [← hX]; exact (Below.refl _ _).alloc (Nat.le_refl _) _
         clear hX hg
         replace bA := bA.on hb
         replace bB := bB.on hb
         replace HW := Lib.hid (bel_end HW.out hb)
         clear hb
         refine hK.out _ _ (HSp.out _ bA bB) (fun _ => ?_)
         clear hK Kn)
      | (refine wpAnyH_ready (rs := [4]) (by decide +kernel) (by simp) ?_
         refine AllReadyH.cons (o := { dst := some 14, op := Go.Op.call { callee := Go.Callee.value (Go.Operand.func 32), args := #[Go.Operand.tmp 11, Go.Operand.tmp 13], argTypes := #[44, 44] }, type := 48, pos := "exact.go:4063", after := #[{ on := 1, ground := Go.Ground.data }, { on := 3, ground := Go.Ground.data }, { on := 3, ground := Go.Ground.chain }], guard := none }) rfl (fun Kn hK => ?_) AllReadyH.nil
         first | go_at_call 32 | (go_simp; go_at_call 32)
         (with_reducible refine Calls.mono (S1.out _) ?_)
         rintro e V4 ⟨rfl, hb⟩
         try dsimp only
         try simp only [Act.put, List.setIfInBounds_toArray, List.set_cons_zero, List.set_cons_succ]
         replace bA := bA.on hb
         replace bB := bB.on hb
         replace bn8 := bn8.on hb
         replace HW := Lib.hid (bel_end HW.out hb)
         clear hb
         refine hK.out _ _ (HSp.out _ bA bB) (fun _ => ?_)
         clear hK Kn)
    all_goals
      first
      | (refine wpAnyH_ready (rs := [9]) (by decide +kernel) (by simp) ?_
         refine AllReadyH.cons (o := { dst := none, op := Go.Op.store 34 (Go.Operand.tmp 5) (Go.Operand.tmp 15), type := 0, pos := "exact.go:4063", after := #[{ on := 8, ground := Go.Ground.data }, { on := 6, ground := Go.Ground.data }, { on := 4, ground := Go.Ground.chain }, { on := 0, ground := Go.Ground.phase }, { on := 1, ground := Go.Ground.phase }, { on := 2, ground := Go.Ground.phase }, { on := 3, ground := Go.Ground.phase }, { on := 4, ground := Go.Ground.phase }, { on := 5, ground := Go.Ground.phase }, { on := 6, ground := Go.Ground.phase }, { on := 7, ground := Go.Ground.textOnly Go.Departure.lateStores }, { on := 8, ground := Go.Ground.phase }], guard := none }) rfl (fun Kn hK => ?_) AllReadyH.nil
         have bn8_0 := bn8.cell 0 rfl
         have bn8_1 := bn8.cell 1 rfl
         have bn8_f0 := bn8.frozen 0
         have bn8_f1 := bn8.frozen 1
         have bn8_l := bn8.lt
         go_simp
         clear bn8_0 bn8_f0 bn8_1 bn8_f1 bn8_l
         generalize hX : World.setCell _ _ _ = V5
         have hb : Below W.heap.size W V5 := by rw [← hX]; exact ((HW.out.setCell (p := ⟨g8, 0, none⟩) le8 _).setCell (p := ⟨g8, 1, none⟩) le8 _)
         replace bA : Bk V5 (w.heap.size) #[.int .i64 a1, .int .i64 a2, .int .i64 a3, .int .i64 a4] 40 := by rw [← hX]; exact (Bk.other (Bk.other bA nebA_8 0 _) nebA_8 1 _)
         replace bB : Bk V5 (w.heap.size + 1) #[.int .i64 b1, .int .i64 b2, .int .i64 b3, .int .i64 b4] 40 := by rw [← hX]; exact (Bk.other (Bk.other bB nebB_8 0 _) nebB_8 1 _)
         replace bn8 : Bk V5 (g8) #[.int .i64 p, .int .i64 q] 34 := by rw [← hX]; exact (Bk.set (Bk.set bn8 0 _ rfl) 1 _ rfl)
         clear hX
         replace HW := Lib.hid hb
         clear hb
         refine hK.out _ _ (HSp.out _ bA bB) (fun _ => ?_)
         clear hK Kn)
      | (have hS := HSp.out _ bA bB
         refine wpAnyH_take (i := 5) (oi := { dst := some 9, op := Go.Op.move (Go.Operand.tmp 14), type := 48, pos := "exact.go:4063", after := #[{ on := 4, ground := Go.Ground.data }], guard := none }) (v := ?_) rfl (by kernel_rfl) (by kernel_rfl) (by kernel_rfl) (fun _ _ _ h => h) (Or.inl ⟨by rfl, ?_⟩) hS ?_
         rotate_left
         · (intro w hSw; have hSw := (HSd.out w).1 hSw; go_split_ands; go_simp) <;> with_reducible rfl
         clear hS
         try simp only [Act.put, List.setIfInBounds_toArray, List.set_cons_zero, List.set_cons_succ]
         have hS := HSp.out _ bA bB
         refine wpAnyH_take (i := 6) (oi := { dst := some 15, op := Go.Op.extract (Go.Operand.tmp 9) 0, type := 34, pos := "exact.go:4063", after := #[{ on := 5, ground := Go.Ground.data }], guard := none }) (v := ?_) rfl (by kernel_rfl) (by kernel_rfl) (by kernel_rfl) (fun _ _ _ h => h) (Or.inl ⟨by rfl, ?_⟩) hS ?_
         rotate_left
         · (intro w hSw; have hSw := (HSd.out w).1 hSw; go_split_ands; go_simp) <;> with_reducible rfl
         clear hS
         try simp only [Act.put, List.setIfInBounds_toArray, List.set_cons_zero, List.set_cons_succ]
         have hS := HSp.out _ bA bB
         refine wpAnyH_take (i := 7) (oi := { dst := some 16, op := Go.Op.extract (Go.Operand.tmp 9) 1, type := 2, pos := "exact.go:4063", after := #[{ on := 5, ground := Go.Ground.data }, { on := 9, ground := Go.Ground.gcOnly Go.Departure.lateStores }], guard := none }) (v := ?_) rfl (by kernel_rfl) (by kernel_rfl) (by kernel_rfl) (fun _ _ _ h => h) (Or.inl ⟨by rfl, ?_⟩) hS ?_
         rotate_left
         · (intro w hSw; have hSw := (HSd.out w).1 hSw; go_split_ands; go_simp) <;> with_reducible rfl
         clear hS
         try simp only [Act.put, List.setIfInBounds_toArray, List.set_cons_zero, List.set_cons_succ]
         refine wpAnyH_ready (rs := [9]) (by decide +kernel) (by simp) ?_
         refine AllReadyH.cons (o := { dst := none, op := Go.Op.store 34 (Go.Operand.tmp 5) (Go.Operand.tmp 15), type := 0, pos := "exact.go:4063", after := #[{ on := 8, ground := Go.Ground.data }, { on := 6, ground := Go.Ground.data }, { on := 4, ground := Go.Ground.chain }, { on := 0, ground := Go.Ground.phase }, { on := 1, ground := Go.Ground.phase }, { on := 2, ground := Go.Ground.phase }, { on := 3, ground := Go.Ground.phase }, { on := 4, ground := Go.Ground.phase }, { on := 5, ground := Go.Ground.phase }, { on := 6, ground := Go.Ground.phase }, { on := 7, ground := Go.Ground.textOnly Go.Departure.lateStores }, { on := 8, ground := Go.Ground.phase }], guard := none }) rfl (fun Kn hK => ?_) AllReadyH.nil
         have bn8_0 := bn8.cell 0 rfl
         have bn8_1 := bn8.cell 1 rfl
         have bn8_f0 := bn8.frozen 0
         have bn8_f1 := bn8.frozen 1
         have bn8_l := bn8.lt
         go_simp
         clear bn8_0 bn8_f0 bn8_1 bn8_f1 bn8_l
         generalize hX : World.setCell _ _ _ = V5
         have hb : Below W.heap.size W V5 := by rw [← hX]; exact ((HW.out.setCell (p := ⟨g8, 0, none⟩) le8 _).setCell (p := ⟨g8, 1, none⟩) le8 _)
         replace bA : Bk V5 (w.heap.size) #[.int .i64 a1, .int .i64 a2, .int .i64 a3, .int .i64 a4] 40 := by rw [← hX]; exact (Bk.other (Bk.other bA nebA_8 0 _) nebA_8 1 _)
         replace bB : Bk V5 (w.heap.size + 1) #[.int .i64 b1, .int .i64 b2, .int .i64 b3, .int .i64 b4] 40 := by rw [← hX]; exact (Bk.other (Bk.other bB nebB_8 0 _) nebB_8 1 _)
         replace bn8 : Bk V5 (g8) #[.int .i64 p, .int .i64 q] 34 := by rw [← hX]; exact (Bk.set (Bk.set bn8 0 _ rfl) 1 _ rfl)
         clear hX
         replace HW := Lib.hid hb
         clear hb
         refine hK.out _ _ (HSp.out _ bA bB) (fun _ => ?_)
         clear hK Kn)
    all_goals
      have hS := HSp.out _ bA bB
      refine wpAnyH_take (i := 10) (oi := { dst := some 6, op := Go.Op.assign (Go.Operand.tmp 16), type := 2, pos := "exact.go:4063", after := #[{ on := 7, ground := Go.Ground.data }, { on := 9, ground := Go.Ground.chain }, { on := 0, ground := Go.Ground.phase }, { on := 1, ground := Go.Ground.phase }, { on := 2, ground := Go.Ground.phase }, { on := 3, ground := Go.Ground.phase }, { on := 4, ground := Go.Ground.phase }, { on := 5, ground := Go.Ground.phase }, { on := 6, ground := Go.Ground.phase }, { on := 7, ground := Go.Ground.phase }, { on := 8, ground := Go.Ground.phase }, { on := 9, ground := Go.Ground.phase }], guard := none }) (v := ?_) rfl (by kernel_rfl) (by kernel_rfl) (by kernel_rfl) (fun _ _ _ h => h) (Or.inl ⟨by rfl, ?_⟩) hS ?_
      rotate_left
      · (intro w hSw; have hSw := (HSd.out w).1 hSw; go_split_ands; go_simp) <;> with_reducible rfl
      clear hS
      try simp only [Act.put, List.setIfInBounds_toArray, List.set_cons_zero, List.set_cons_succ]
      refine wpAnyH_done (by kernel_rfl) ?_ _
      go_wp2_with fail
      go_meet
      exact ⟨⟨_, rfl, rfl, bn8⟩, HW.out⟩
  case rest =>
    obtain ⟨hx, hb⟩ := hcut
    replace bA := bA.on hb
    replace bB := bB.on hb
    replace HB := Lib.hid (bel_end HB.out hb)
    clear hb
    obtain ⟨ga0, rfl, rfl, bRa0⟩ := hx
    obtain ⟨WCa, hWC⟩ : ∃ W, W = wc := ⟨_, rfl⟩
    skip
    have bA_0 := bA.cell 0 rfl
    have bA_1 := bA.cell 1 rfl
    have bA_2 := bA.cell 2 rfl
    have bA_3 := bA.cell 3 rfl
    have bA_l := bA.lt
    have bB_0 := bB.cell 0 rfl
    have bB_1 := bB.cell 1 rfl
    have bB_2 := bB.cell 2 rfl
    have bB_3 := bB.cell 3 rfl
    have bB_l := bB.lt
    have bRa0_0 := bRa0.cell 0 rfl
    have bRa0_1 := bRa0.cell 1 rfl
    have bRa0_l := bRa0.lt
    go_upto_region 2 with fail
    clear bA_0 bA_1 bA_2 bA_3 bA_l bB_0 bB_1 bB_2 bB_3 bB_l bRa0_0 bRa0_1 bRa0_l
    go_cut [7, 8] (fun s7 s8 wx => XR1 wx s7 s8 #[.int .i64 p, .int .i64 q] 34 (c) ∧ Below wc.heap.size wc wx)
    case first =>
      have HW : Hid (Below wc.heap.size wc wc) := Lib.hid (Below.refl _ _)
      obtain ⟨S, hSd⟩ : ∃ S : World → Prop, ∀ w', S w' ↔ (w'.cell? ⟨w.heap.size, 0, none⟩ = some (.int .i64 a1) ∧ w'.cell? ⟨w.heap.size, 1, none⟩ = some (.int .i64 a2) ∧ w'.cell? ⟨w.heap.size, 2, none⟩ = some (.int .i64 a3) ∧ w'.cell? ⟨w.heap.size, 3, none⟩ = some (.int .i64 a4) ∧ w'.cell? ⟨w.heap.size + 1, 0, none⟩ = some (.int .i64 b1) ∧ w'.cell? ⟨w.heap.size + 1, 1, none⟩ = some (.int .i64 b2) ∧ w'.cell? ⟨w.heap.size + 1, 2, none⟩ = some (.int .i64 b3) ∧ w'.cell? ⟨w.heap.size + 1, 3, none⟩ = some (.int .i64 b4)) := ⟨_, fun _ => Iff.rfl⟩
      have HSp : Hid (∀ w' : World, Bk w' (w.heap.size) #[.int .i64 a1, .int .i64 a2, .int .i64 a3, .int .i64 a4] 40 → Bk w' (w.heap.size + 1) #[.int .i64 b1, .int .i64 b2, .int .i64 b3, .int .i64 b4] 40 → S w') := Lib.hid (fun w' bA bB => (hSd w').2 ⟨bA.cell 0 rfl, bA.cell 1 rfl, bA.cell 2 rfl, bA.cell 3 rfl, bB.cell 0 rfl, bB.cell 1 rfl, bB.cell 2 rfl, bB.cell 3 rfl⟩)
      have HSd := Lib.hid hSd
      clear hSd
      refine wp_region_held_drew (S := S) (by kernel_rfl) ?_ (fun hH => ?_)
      · exact (HSp.out _ bA bB : S (World.drew wc))
      clear hH
      generalize hX : World.drew wc = V0
      replace bA : Bk V0 (w.heap.size) #[.int .i64 a1, .int .i64 a2, .int .i64 a3, .int .i64 a4] 40 := by rw [← hX]; exact bA
      replace bB : Bk V0 (w.heap.size + 1) #[.int .i64 b1, .int .i64 b2, .int .i64 b3, .int .i64 b4] 40 := by rw [← hX]; exact bB
      have hb : Below wc.heap.size wc V0 := by rw [← hX]; exact (Below.refl _ _).drew
      clear hX
      replace HW := Lib.hid (bel_end HW.out hb)
      clear hb
      have hS := HSp.out _ bA bB
      refine wpAnyH_take (i := 0) (oi := { dst := some 18, op := Go.Op.load 40 (Go.Operand.tmp 2), type := 40, pos := "exact.go:4064", after := #[], guard := none }) (v := ?_) rfl (by kernel_rfl) (by kernel_rfl) (by kernel_rfl) (fun _ _ _ h => h) (Or.inl ⟨by rfl, ?_⟩) hS ?_
      rotate_left
      · (intro w hSw; have hSw := (HSd.out w).1 hSw; go_split_ands; go_simp) <;> with_reducible rfl
      clear hS
      try simp only [Act.put, List.setIfInBounds_toArray, List.set_cons_zero, List.set_cons_succ]
      have hS := HSp.out _ bA bB
      refine wpAnyH_take (i := 2) (oi := { dst := some 20, op := Go.Op.load 40 (Go.Operand.tmp 3), type := 40, pos := "exact.go:4064", after := #[], guard := none }) (v := ?_) rfl (by kernel_rfl) (by kernel_rfl) (by kernel_rfl) (fun _ _ _ h => h) (Or.inl ⟨by rfl, ?_⟩) hS ?_
      rotate_left
      · (intro w hSw; have hSw := (HSd.out w).1 hSw; go_split_ands; go_simp) <;> with_reducible rfl
      clear hS
      try simp only [Act.put, List.setIfInBounds_toArray, List.set_cons_zero, List.set_cons_succ]
      refine wpAnyH_ready (rs := [1, 8]) (by decide +kernel) (by simp) ?_
      refine AllReadyH.cons (o := { dst := some 19, op := Go.Op.call { callee := Go.Callee.value (Go.Operand.func 27), args := #[Go.Operand.tmp 18], argTypes := #[40] }, type := 44, pos := "exact.go:4064", after := #[{ on := 0, ground := Go.Ground.data }], guard := none }) rfl (fun Kn hK => ?_) ?_
      first | go_at_call 27 | (go_simp; go_at_call 27)
      (with_reducible refine Calls.mono (ttk_any _ _ _ _ _) ?_)
      rintro e V1 ⟨rfl, hb⟩
      try dsimp only
      try simp only [Act.put, List.setIfInBounds_toArray, List.set_cons_zero, List.set_cons_succ]
      replace bA := bA.on hb
      replace bB := bB.on hb
      replace HW := Lib.hid (bel_end HW.out hb)
      clear hb
      refine hK.out _ _ (HSp.out _ bA bB) (fun _ => ?_)
      clear hK Kn
      rotate_left
      refine AllReadyH.cons (o := { dst := some 7, op := Go.Op.alloc 34, type := 0, pos := "exact.go:4064", after := #[], guard := none }) rfl (fun Kn hK => ?_) AllReadyH.nil
      go_simp
      generalize hX : World.alloc V0 _ = V1
      obtain ⟨g8, hg⟩ : ∃ g, g = V0.heap.size := ⟨_, rfl⟩
      have bn8 : Bk V1 g8 #[.int .i64 0, .int .i64 0] 34 := by rw [← hX]; exact Bk.new' hg
      have le8 : wc.heap.size ≤ g8 := by rw [hg]; exact HW.out.size
      have nebA_8 : w.heap.size ≠ g8 := by have := bA.lt; omega
      have nebB_8 : w.heap.size + 1 ≠ g8 := by have := bB.lt; omega
      try rw [← hg]
      have hb : Below V0.heap.size V0 V1 := by rw [← hX]; exact (Below.refl _ _).alloc (Nat.le_refl _) _
      clear hX hg
      replace bA := bA.on hb
      replace bB := bB.on hb
      replace HW := Lib.hid (bel_end HW.out hb)
      clear hb
      refine hK.out _ _ (HSp.out _ bA bB) (fun _ => ?_)
      clear hK Kn
      all_goals
        first
        | (refine wpAnyH_ready (rs := [3, 8]) (by decide +kernel) (by simp) ?_
           refine AllReadyH.cons (o := { dst := some 21, op := Go.Op.call { callee := Go.Callee.value (Go.Operand.func 27), args := #[Go.Operand.tmp 20], argTypes := #[40] }, type := 44, pos := "exact.go:4064", after := #[{ on := 2, ground := Go.Ground.data }, { on := 1, ground := Go.Ground.chain }], guard := none }) rfl (fun Kn hK => ?_) ?_
           first | go_at_call 27 | (go_simp; go_at_call 27)
           (with_reducible refine Calls.mono (ttk_any _ _ _ _ _) ?_)
           rintro e V2 ⟨rfl, hb⟩
           try dsimp only
           try simp only [Act.put, List.setIfInBounds_toArray, List.set_cons_zero, List.set_cons_succ]
           replace bA := bA.on hb
           replace bB := bB.on hb
           replace HW := Lib.hid (bel_end HW.out hb)
           clear hb
           refine hK.out _ _ (HSp.out _ bA bB) (fun _ => ?_)
           clear hK Kn
           rotate_left
           refine AllReadyH.cons (o := { dst := some 7, op := Go.Op.alloc 34, type := 0, pos := "exact.go:4064", after := #[], guard := none }) rfl (fun Kn hK => ?_) AllReadyH.nil
           go_simp
           generalize hX : World.alloc V1 _ = V2
           obtain ⟨g8, hg⟩ : ∃ g, g = V1.heap.size := ⟨_, rfl⟩
           have bn8 : Bk V2 g8 #[.int .i64 0, .int .i64 0] 34 := by rw [← hX]; exact Bk.new' hg
           have le8 : wc.heap.size ≤ g8 := by rw [hg]; exact HW.out.size
           have nebA_8 : w.heap.size ≠ g8 := by have := bA.lt; omega
           have nebB_8 : w.heap.size + 1 ≠ g8 := by have := bB.lt; omega
           try rw [← hg]
           have hb : Below V1.heap.size V1 V2 := by rw [← hX]; exact (Below.refl _ _).alloc (Nat.le_refl _) _
           clear hX hg
           replace bA := bA.on hb
           replace bB := bB.on hb
           replace HW := Lib.hid (bel_end HW.out hb)
           clear hb
           refine hK.out _ _ (HSp.out _ bA bB) (fun _ => ?_)
           clear hK Kn)
        | (refine wpAnyH_ready (rs := [1]) (by decide +kernel) (by simp) ?_
           refine AllReadyH.cons (o := { dst := some 19, op := Go.Op.call { callee := Go.Callee.value (Go.Operand.func 27), args := #[Go.Operand.tmp 18], argTypes := #[40] }, type := 44, pos := "exact.go:4064", after := #[{ on := 0, ground := Go.Ground.data }], guard := none }) rfl (fun Kn hK => ?_) AllReadyH.nil
           first | go_at_call 27 | (go_simp; go_at_call 27)
           (with_reducible refine Calls.mono (ttk_any _ _ _ _ _) ?_)
           rintro e V2 ⟨rfl, hb⟩
           try dsimp only
           try simp only [Act.put, List.setIfInBounds_toArray, List.set_cons_zero, List.set_cons_succ]
           replace bA := bA.on hb
           replace bB := bB.on hb
           replace bn8 := bn8.on hb
           replace HW := Lib.hid (bel_end HW.out hb)
           clear hb
           refine hK.out _ _ (HSp.out _ bA bB) (fun _ => ?_)
           clear hK Kn)
      all_goals
        first
        | (refine wpAnyH_ready (rs := [4, 8]) (by decide +kernel) (by simp) ?_
           refine AllReadyH.cons (o := { dst := some 22, op := Go.Op.call { callee := Go.Callee.value (Go.Operand.func 33), args := #[Go.Operand.tmp 19, Go.Operand.tmp 21], argTypes := #[44, 44] }, type := 48, pos := "exact.go:4064", after := #[{ on := 1, ground := Go.Ground.data }, { on := 3, ground := Go.Ground.data }, { on := 3, ground := Go.Ground.chain }], guard := none }) rfl (fun Kn hK => ?_) ?_
           first | go_at_call 33 | (go_simp; go_at_call 33)
           (with_reducible refine Calls.mono (S2.out _) ?_)
           rintro e V3 ⟨rfl, hb⟩
           try dsimp only
           try simp only [Act.put, List.setIfInBounds_toArray, List.set_cons_zero, List.set_cons_succ]
           replace bA := bA.on hb
           replace bB := bB.on hb
           replace HW := Lib.hid (bel_end HW.out hb)
           clear hb
           refine hK.out _ _ (HSp.out _ bA bB) (fun _ => ?_)
           clear hK Kn
           rotate_left
           refine AllReadyH.cons (o := { dst := some 7, op := Go.Op.alloc 34, type := 0, pos := "exact.go:4064", after := #[], guard := none }) rfl (fun Kn hK => ?_) AllReadyH.nil
           go_simp
           generalize hX : World.alloc V2 _ = V3
           obtain ⟨g8, hg⟩ : ∃ g, g = V2.heap.size := ⟨_, rfl⟩
           have bn8 : Bk V3 g8 #[.int .i64 0, .int .i64 0] 34 := by rw [← hX]; exact Bk.new' hg
           have le8 : wc.heap.size ≤ g8 := by rw [hg]; exact HW.out.size
           have nebA_8 : w.heap.size ≠ g8 := by have := bA.lt; omega
           have nebB_8 : w.heap.size + 1 ≠ g8 := by have := bB.lt; omega
           try rw [← hg]
           have hb : Below V2.heap.size V2 V3 := by rw [← hX]; exact (Below.refl _ _).alloc (Nat.le_refl _) _
           clear hX hg
           replace bA := bA.on hb
           replace bB := bB.on hb
           replace HW := Lib.hid (bel_end HW.out hb)
           clear hb
           refine hK.out _ _ (HSp.out _ bA bB) (fun _ => ?_)
           clear hK Kn)
        | (refine wpAnyH_ready (rs := [3]) (by decide +kernel) (by simp) ?_
           refine AllReadyH.cons (o := { dst := some 21, op := Go.Op.call { callee := Go.Callee.value (Go.Operand.func 27), args := #[Go.Operand.tmp 20], argTypes := #[40] }, type := 44, pos := "exact.go:4064", after := #[{ on := 2, ground := Go.Ground.data }, { on := 1, ground := Go.Ground.chain }], guard := none }) rfl (fun Kn hK => ?_) AllReadyH.nil
           first | go_at_call 27 | (go_simp; go_at_call 27)
           (with_reducible refine Calls.mono (ttk_any _ _ _ _ _) ?_)
           rintro e V3 ⟨rfl, hb⟩
           try dsimp only
           try simp only [Act.put, List.setIfInBounds_toArray, List.set_cons_zero, List.set_cons_succ]
           replace bA := bA.on hb
           replace bB := bB.on hb
           replace bn8 := bn8.on hb
           replace HW := Lib.hid (bel_end HW.out hb)
           clear hb
           refine hK.out _ _ (HSp.out _ bA bB) (fun _ => ?_)
           clear hK Kn)
      all_goals
        first
        | (have hS := HSp.out _ bA bB
           refine wpAnyH_take (i := 5) (oi := { dst := some 17, op := Go.Op.move (Go.Operand.tmp 22), type := 48, pos := "exact.go:4064", after := #[{ on := 4, ground := Go.Ground.data }], guard := none }) (v := ?_) rfl (by kernel_rfl) (by kernel_rfl) (by kernel_rfl) (fun _ _ _ h => h) (Or.inl ⟨by rfl, ?_⟩) hS ?_
           rotate_left
           · (intro w hSw; have hSw := (HSd.out w).1 hSw; go_split_ands; go_simp) <;> with_reducible rfl
           clear hS
           try simp only [Act.put, List.setIfInBounds_toArray, List.set_cons_zero, List.set_cons_succ]
           have hS := HSp.out _ bA bB
           refine wpAnyH_take (i := 6) (oi := { dst := some 23, op := Go.Op.extract (Go.Operand.tmp 17) 0, type := 34, pos := "exact.go:4064", after := #[{ on := 5, ground := Go.Ground.data }], guard := none }) (v := ?_) rfl (by kernel_rfl) (by kernel_rfl) (by kernel_rfl) (fun _ _ _ h => h) (Or.inl ⟨by rfl, ?_⟩) hS ?_
           rotate_left
           · (intro w hSw; have hSw := (HSd.out w).1 hSw; go_split_ands; go_simp) <;> with_reducible rfl
           clear hS
           try simp only [Act.put, List.setIfInBounds_toArray, List.set_cons_zero, List.set_cons_succ]
           have hS := HSp.out _ bA bB
           refine wpAnyH_take (i := 7) (oi := { dst := some 24, op := Go.Op.extract (Go.Operand.tmp 17) 1, type := 2, pos := "exact.go:4064", after := #[{ on := 5, ground := Go.Ground.data }, { on := 9, ground := Go.Ground.gcOnly Go.Departure.lateStores }], guard := none }) (v := ?_) rfl (by kernel_rfl) (by kernel_rfl) (by kernel_rfl) (fun _ _ _ h => h) (Or.inl ⟨by rfl, ?_⟩) hS ?_
           rotate_left
           · (intro w hSw; have hSw := (HSd.out w).1 hSw; go_split_ands; go_simp) <;> with_reducible rfl
           clear hS
           try simp only [Act.put, List.setIfInBounds_toArray, List.set_cons_zero, List.set_cons_succ]
           refine wpAnyH_ready (rs := [8]) (by decide +kernel) (by simp) ?_
           refine AllReadyH.cons (o := { dst := some 7, op := Go.Op.alloc 34, type := 0, pos := "exact.go:4064", after := #[], guard := none }) rfl (fun Kn hK => ?_) AllReadyH.nil
           go_simp
           generalize hX : World.alloc V3 _ = V4
           obtain ⟨g8, hg⟩ : ∃ g, g = V3.heap.size := ⟨_, rfl⟩
           have bn8 : Bk V4 g8 #[.int .i64 0, .int .i64 0] 34 := by rw [← hX]; exact Bk.new' hg
           have le8 : wc.heap.size ≤ g8 := by rw [hg]; exact HW.out.size
           have nebA_8 : w.heap.size ≠ g8 := by have := bA.lt; omega
           have nebB_8 : w.heap.size + 1 ≠ g8 := by have := bB.lt; omega
           try rw [← hg]
           have hb : Below V3.heap.size V3 V4 := by rw [← hX]; exact (Below.refl _ _).alloc (Nat.le_refl _) _
           clear hX hg
           replace bA := bA.on hb
           replace bB := bB.on hb
           replace HW := Lib.hid (bel_end HW.out hb)
           clear hb
           refine hK.out _ _ (HSp.out _ bA bB) (fun _ => ?_)
           clear hK Kn)
        | (refine wpAnyH_ready (rs := [4]) (by decide +kernel) (by simp) ?_
           refine AllReadyH.cons (o := { dst := some 22, op := Go.Op.call { callee := Go.Callee.value (Go.Operand.func 33), args := #[Go.Operand.tmp 19, Go.Operand.tmp 21], argTypes := #[44, 44] }, type := 48, pos := "exact.go:4064", after := #[{ on := 1, ground := Go.Ground.data }, { on := 3, ground := Go.Ground.data }, { on := 3, ground := Go.Ground.chain }], guard := none }) rfl (fun Kn hK => ?_) AllReadyH.nil
           first | go_at_call 33 | (go_simp; go_at_call 33)
           (with_reducible refine Calls.mono (S2.out _) ?_)
           rintro e V4 ⟨rfl, hb⟩
           try dsimp only
           try simp only [Act.put, List.setIfInBounds_toArray, List.set_cons_zero, List.set_cons_succ]
           replace bA := bA.on hb
           replace bB := bB.on hb
           replace bn8 := bn8.on hb
           replace HW := Lib.hid (bel_end HW.out hb)
           clear hb
           refine hK.out _ _ (HSp.out _ bA bB) (fun _ => ?_)
           clear hK Kn)
      all_goals
        first
        | (refine wpAnyH_ready (rs := [9]) (by decide +kernel) (by simp) ?_
           refine AllReadyH.cons (o := { dst := none, op := Go.Op.store 34 (Go.Operand.tmp 7) (Go.Operand.tmp 23), type := 0, pos := "exact.go:4064", after := #[{ on := 8, ground := Go.Ground.data }, { on := 6, ground := Go.Ground.data }, { on := 4, ground := Go.Ground.chain }, { on := 0, ground := Go.Ground.phase }, { on := 1, ground := Go.Ground.phase }, { on := 2, ground := Go.Ground.phase }, { on := 3, ground := Go.Ground.phase }, { on := 4, ground := Go.Ground.phase }, { on := 5, ground := Go.Ground.phase }, { on := 6, ground := Go.Ground.phase }, { on := 7, ground := Go.Ground.textOnly Go.Departure.lateStores }, { on := 8, ground := Go.Ground.phase }], guard := none }) rfl (fun Kn hK => ?_) AllReadyH.nil
           have bn8_0 := bn8.cell 0 rfl
           have bn8_1 := bn8.cell 1 rfl
           have bn8_f0 := bn8.frozen 0
           have bn8_f1 := bn8.frozen 1
           have bn8_l := bn8.lt
           go_simp
           clear bn8_0 bn8_f0 bn8_1 bn8_f1 bn8_l
           generalize hX : World.setCell _ _ _ = V5
           have hb : Below wc.heap.size wc V5 := by rw [← hX]; exact ((HW.out.setCell (p := ⟨g8, 0, none⟩) le8 _).setCell (p := ⟨g8, 1, none⟩) le8 _)
           replace bA : Bk V5 (w.heap.size) #[.int .i64 a1, .int .i64 a2, .int .i64 a3, .int .i64 a4] 40 := by rw [← hX]; exact (Bk.other (Bk.other bA nebA_8 0 _) nebA_8 1 _)
           replace bB : Bk V5 (w.heap.size + 1) #[.int .i64 b1, .int .i64 b2, .int .i64 b3, .int .i64 b4] 40 := by rw [← hX]; exact (Bk.other (Bk.other bB nebB_8 0 _) nebB_8 1 _)
           replace bn8 : Bk V5 (g8) #[.int .i64 p, .int .i64 q] 34 := by rw [← hX]; exact (Bk.set (Bk.set bn8 0 _ rfl) 1 _ rfl)
           clear hX
           replace HW := Lib.hid hb
           clear hb
           refine hK.out _ _ (HSp.out _ bA bB) (fun _ => ?_)
           clear hK Kn)
        | (have hS := HSp.out _ bA bB
           refine wpAnyH_take (i := 5) (oi := { dst := some 17, op := Go.Op.move (Go.Operand.tmp 22), type := 48, pos := "exact.go:4064", after := #[{ on := 4, ground := Go.Ground.data }], guard := none }) (v := ?_) rfl (by kernel_rfl) (by kernel_rfl) (by kernel_rfl) (fun _ _ _ h => h) (Or.inl ⟨by rfl, ?_⟩) hS ?_
           rotate_left
           · (intro w hSw; have hSw := (HSd.out w).1 hSw; go_split_ands; go_simp) <;> with_reducible rfl
           clear hS
           try simp only [Act.put, List.setIfInBounds_toArray, List.set_cons_zero, List.set_cons_succ]
           have hS := HSp.out _ bA bB
           refine wpAnyH_take (i := 6) (oi := { dst := some 23, op := Go.Op.extract (Go.Operand.tmp 17) 0, type := 34, pos := "exact.go:4064", after := #[{ on := 5, ground := Go.Ground.data }], guard := none }) (v := ?_) rfl (by kernel_rfl) (by kernel_rfl) (by kernel_rfl) (fun _ _ _ h => h) (Or.inl ⟨by rfl, ?_⟩) hS ?_
           rotate_left
           · (intro w hSw; have hSw := (HSd.out w).1 hSw; go_split_ands; go_simp) <;> with_reducible rfl
           clear hS
           try simp only [Act.put, List.setIfInBounds_toArray, List.set_cons_zero, List.set_cons_succ]
           have hS := HSp.out _ bA bB
           refine wpAnyH_take (i := 7) (oi := { dst := some 24, op := Go.Op.extract (Go.Operand.tmp 17) 1, type := 2, pos := "exact.go:4064", after := #[{ on := 5, ground := Go.Ground.data }, { on := 9, ground := Go.Ground.gcOnly Go.Departure.lateStores }], guard := none }) (v := ?_) rfl (by kernel_rfl) (by kernel_rfl) (by kernel_rfl) (fun _ _ _ h => h) (Or.inl ⟨by rfl, ?_⟩) hS ?_
           rotate_left
           · (intro w hSw; have hSw := (HSd.out w).1 hSw; go_split_ands; go_simp) <;> with_reducible rfl
           clear hS
           try simp only [Act.put, List.setIfInBounds_toArray, List.set_cons_zero, List.set_cons_succ]
           refine wpAnyH_ready (rs := [9]) (by decide +kernel) (by simp) ?_
           refine AllReadyH.cons (o := { dst := none, op := Go.Op.store 34 (Go.Operand.tmp 7) (Go.Operand.tmp 23), type := 0, pos := "exact.go:4064", after := #[{ on := 8, ground := Go.Ground.data }, { on := 6, ground := Go.Ground.data }, { on := 4, ground := Go.Ground.chain }, { on := 0, ground := Go.Ground.phase }, { on := 1, ground := Go.Ground.phase }, { on := 2, ground := Go.Ground.phase }, { on := 3, ground := Go.Ground.phase }, { on := 4, ground := Go.Ground.phase }, { on := 5, ground := Go.Ground.phase }, { on := 6, ground := Go.Ground.phase }, { on := 7, ground := Go.Ground.textOnly Go.Departure.lateStores }, { on := 8, ground := Go.Ground.phase }], guard := none }) rfl (fun Kn hK => ?_) AllReadyH.nil
           have bn8_0 := bn8.cell 0 rfl
           have bn8_1 := bn8.cell 1 rfl
           have bn8_f0 := bn8.frozen 0
           have bn8_f1 := bn8.frozen 1
           have bn8_l := bn8.lt
           go_simp
           clear bn8_0 bn8_f0 bn8_1 bn8_f1 bn8_l
           generalize hX : World.setCell _ _ _ = V5
           have hb : Below wc.heap.size wc V5 := by rw [← hX]; exact ((HW.out.setCell (p := ⟨g8, 0, none⟩) le8 _).setCell (p := ⟨g8, 1, none⟩) le8 _)
           replace bA : Bk V5 (w.heap.size) #[.int .i64 a1, .int .i64 a2, .int .i64 a3, .int .i64 a4] 40 := by rw [← hX]; exact (Bk.other (Bk.other bA nebA_8 0 _) nebA_8 1 _)
           replace bB : Bk V5 (w.heap.size + 1) #[.int .i64 b1, .int .i64 b2, .int .i64 b3, .int .i64 b4] 40 := by rw [← hX]; exact (Bk.other (Bk.other bB nebB_8 0 _) nebB_8 1 _)
           replace bn8 : Bk V5 (g8) #[.int .i64 p, .int .i64 q] 34 := by rw [← hX]; exact (Bk.set (Bk.set bn8 0 _ rfl) 1 _ rfl)
           clear hX
           replace HW := Lib.hid hb
           clear hb
           refine hK.out _ _ (HSp.out _ bA bB) (fun _ => ?_)
           clear hK Kn)
      all_goals
        have hS := HSp.out _ bA bB
        refine wpAnyH_take (i := 10) (oi := { dst := some 8, op := Go.Op.assign (Go.Operand.tmp 24), type := 2, pos := "exact.go:4064", after := #[{ on := 7, ground := Go.Ground.data }, { on := 9, ground := Go.Ground.chain }, { on := 0, ground := Go.Ground.phase }, { on := 1, ground := Go.Ground.phase }, { on := 2, ground := Go.Ground.phase }, { on := 3, ground := Go.Ground.phase }, { on := 4, ground := Go.Ground.phase }, { on := 5, ground := Go.Ground.phase }, { on := 6, ground := Go.Ground.phase }, { on := 7, ground := Go.Ground.phase }, { on := 8, ground := Go.Ground.phase }, { on := 9, ground := Go.Ground.phase }], guard := none }) (v := ?_) rfl (by kernel_rfl) (by kernel_rfl) (by kernel_rfl) (fun _ _ _ h => h) (Or.inl ⟨by rfl, ?_⟩) hS ?_
        rotate_left
        · (intro w hSw; have hSw := (HSd.out w).1 hSw; go_split_ands; go_simp) <;> with_reducible rfl
        clear hS
        try simp only [Act.put, List.setIfInBounds_toArray, List.set_cons_zero, List.set_cons_succ]
        refine wpAnyH_done (by kernel_rfl) ?_ _
        go_wp2_with fail
        go_meet
        exact ⟨⟨_, rfl, rfl, bn8⟩, HW.out⟩
    case rest =>
      obtain ⟨hx, hb⟩ := hcut
      replace bA := bA.on hb
      replace bB := bB.on hb
      replace bRa0 := bRa0.on hb
      replace HB := Lib.hid (bel_end HB.out hb)
      clear hb
      obtain ⟨gb0, rfl, rfl, bRb0⟩ := hx
      obtain ⟨WCb, hWC⟩ : ∃ W, W = wc := ⟨_, rfl⟩
      skip
      have bA_0 := bA.cell 0 rfl
      have bA_1 := bA.cell 1 rfl
      have bA_2 := bA.cell 2 rfl
      have bA_3 := bA.cell 3 rfl
      have bA_l := bA.lt
      have bB_0 := bB.cell 0 rfl
      have bB_1 := bB.cell 1 rfl
      have bB_2 := bB.cell 2 rfl
      have bB_3 := bB.cell 3 rfl
      have bB_l := bB.lt
      have bRa0_0 := bRa0.cell 0 rfl
      have bRa0_1 := bRa0.cell 1 rfl
      have bRa0_l := bRa0.lt
      have bRb0_0 := bRb0.cell 0 rfl
      have bRb0_1 := bRb0.cell 1 rfl
      have bRb0_l := bRb0.lt
      go_wp2_with fail
      clear bA_0 bA_1 bA_2 bA_3 bA_l bB_0 bB_1 bB_2 bB_3 bB_l bRa0_0 bRa0_1 bRa0_l bRb0_0 bRb0_1 bRb0_l
      refine (eqr_any _ _ _ _ _).mono ?_
      simp only [beq_self_eq_true, Bool.and_self]
      rintro e we0 ⟨rfl, hb⟩
      replace bA := bA.on hb
      replace bB := bB.on hb
      replace bRa0 := bRa0.on hb
      replace bRb0 := bRb0.on hb
      replace HB := Lib.hid (bel_end HB.out hb)
      clear hb
      have bA_0 := bA.cell 0 rfl
      have bA_1 := bA.cell 1 rfl
      have bA_2 := bA.cell 2 rfl
      have bA_3 := bA.cell 3 rfl
      have bA_l := bA.lt
      have bB_0 := bB.cell 0 rfl
      have bB_1 := bB.cell 1 rfl
      have bB_2 := bB.cell 2 rfl
      have bB_3 := bB.cell 3 rfl
      have bB_l := bB.lt
      have bRa0_0 := bRa0.cell 0 rfl
      have bRa0_1 := bRa0.cell 1 rfl
      have bRa0_l := bRa0.lt
      have bRb0_0 := bRb0.cell 0 rfl
      have bRb0_1 := bRb0.cell 1 rfl
      have bRb0_l := bRb0.lt
      go_wp2
      go_ret
      exact ⟨rfl, HB.out⟩

set_option maxRecDepth 100000 in
set_option maxHeartbeats 8000000 in
theorem lbdr (a1 a2 a3 a4 b1 b2 b3 b4 u : Int) (w2 : (Lit.int .i64 u).wf = true) (w : World) :
    Calls Try.prog 10 #[.agg #[.int .i64 a1, .int .i64 a2, .int .i64 a3, .int .i64 a4], .agg #[.int .i64 b1, .int .i64 b2, .int .i64 b3, .int .i64 b4], .int .i64 u] w fun e w' => e = .returned (.bool true) ∧ Below w.heap.size w w' := by
  clear w2
  obtain ⟨Z, hZ⟩ : ∃ qq, bdR a1 a2 a3 a4 b1 b2 b3 b4 u = qq := ⟨_, rfl⟩
  obtain ⟨C, hC⟩ : ∃ qq, bdC a1 a2 a3 a4 b1 b2 b3 b4 u = qq := ⟨_, rfl⟩
  have S1 : Hid (∀ W : World, Calls Try.prog 34 #[.agg #[.int .i64 a1, .int .i64 a2, .int .i64 a3, .int .i64 a4], .agg #[.int .i64 b1, .int .i64 b2, .int .i64 b3, .int .i64 b4], .int .i64 u] W fun e w' => e = .returned (.tuple #[.int .i64 Z, .int .i64 C]) ∧ Below W.heap.size W w') := Lib.hid (fun W => by have := sbd_any W a1 a2 a3 a4 b1 b2 b3 b4 u; rwa [hZ, hC] at this)
  have S2 : Hid (∀ W : World, Calls Try.prog 35 #[.agg #[.int .i64 a1, .int .i64 a2, .int .i64 a3, .int .i64 a4], .agg #[.int .i64 b1, .int .i64 b2, .int .i64 b3, .int .i64 b4], .int .i64 u] W fun e w' => e = .returned (.tuple #[.int .i64 Z, .int .i64 C]) ∧ Below W.heap.size W w') := Lib.hid (fun W => by have := ibd_any W a1 a2 a3 a4 b1 b2 b3 b4 u; rwa [hZ, hC] at this)
  clear hZ hC
  go_enter Try.func10, Try.ntmps10
  go_upto_region 1 with fail
  generalize hW : World.alloc _ _ = W
  have bA : Bk W (w.heap.size) #[.int .i64 a1, .int .i64 a2, .int .i64 a3, .int .i64 a4] 40 := by rw [← hW]; repeat (first | (refine Bk.new' ?_; (simp; done)) | refine Bk.alloc ?_ _)
  have bB : Bk W (w.heap.size + 1) #[.int .i64 b1, .int .i64 b2, .int .i64 b3, .int .i64 b4] 40 := by rw [← hW]; repeat (first | (refine Bk.new' ?_; (simp; done)) | refine Bk.alloc ?_ _)
  have HB : Hid (Below w.heap.size w W) := Lib.hid (by rw [← hW]; exact (by repeat (first | exact Below.refl _ _ | (refine Below.alloc ?_ (by simp <;> omega) _) | (refine Below.setCell ?_ (by simp <;> omega) _) | (refine Below.drew ?_) | (refine bel_drewN ?_ _))))
  clear hW
  have bA_0 := bA.cell 0 rfl
  have bA_1 := bA.cell 1 rfl
  have bA_2 := bA.cell 2 rfl
  have bA_3 := bA.cell 3 rfl
  have bA_l := bA.lt
  have bB_0 := bB.cell 0 rfl
  have bB_1 := bB.cell 1 rfl
  have bB_2 := bB.cell 2 rfl
  have bB_3 := bB.cell 3 rfl
  have bB_l := bB.lt
  go_upto_region 1 with fail
  clear bA_0 bA_1 bA_2 bA_3 bA_l bB_0 bB_1 bB_2 bB_3 bB_l
  go_cut [7, 8] (fun s7 s8 wx => s7 = .int .i64 (Z) ∧ s8 = .int .i64 (C) ∧ Below W.heap.size W wx)
  case first =>
    have HW : Hid (Below W.heap.size W W) := Lib.hid (Below.refl _ _)
    obtain ⟨S, hSd⟩ : ∃ S : World → Prop, ∀ w', S w' ↔ (w'.cell? ⟨w.heap.size, 0, none⟩ = some (.int .i64 a1) ∧ w'.cell? ⟨w.heap.size, 1, none⟩ = some (.int .i64 a2) ∧ w'.cell? ⟨w.heap.size, 2, none⟩ = some (.int .i64 a3) ∧ w'.cell? ⟨w.heap.size, 3, none⟩ = some (.int .i64 a4) ∧ w'.cell? ⟨w.heap.size + 1, 0, none⟩ = some (.int .i64 b1) ∧ w'.cell? ⟨w.heap.size + 1, 1, none⟩ = some (.int .i64 b2) ∧ w'.cell? ⟨w.heap.size + 1, 2, none⟩ = some (.int .i64 b3) ∧ w'.cell? ⟨w.heap.size + 1, 3, none⟩ = some (.int .i64 b4)) := ⟨_, fun _ => Iff.rfl⟩
    have HSp : Hid (∀ w' : World, Bk w' (w.heap.size) #[.int .i64 a1, .int .i64 a2, .int .i64 a3, .int .i64 a4] 40 → Bk w' (w.heap.size + 1) #[.int .i64 b1, .int .i64 b2, .int .i64 b3, .int .i64 b4] 40 → S w') := Lib.hid (fun w' bA bB => (hSd w').2 ⟨bA.cell 0 rfl, bA.cell 1 rfl, bA.cell 2 rfl, bA.cell 3 rfl, bB.cell 0 rfl, bB.cell 1 rfl, bB.cell 2 rfl, bB.cell 3 rfl⟩)
    have HSd := Lib.hid hSd
    clear hSd
    refine wp_region_held_drew (S := S) (by kernel_rfl) ?_ (fun hH => ?_)
    · exact (HSp.out _ bA bB : S (World.drew W))
    clear hH
    generalize hX : World.drew W = V0
    replace bA : Bk V0 (w.heap.size) #[.int .i64 a1, .int .i64 a2, .int .i64 a3, .int .i64 a4] 40 := by rw [← hX]; exact bA
    replace bB : Bk V0 (w.heap.size + 1) #[.int .i64 b1, .int .i64 b2, .int .i64 b3, .int .i64 b4] 40 := by rw [← hX]; exact bB
    have hb : Below W.heap.size W V0 := by rw [← hX]; exact (Below.refl _ _).drew
    clear hX
    replace HW := Lib.hid (bel_end HW.out hb)
    clear hb
    have hS := HSp.out _ bA bB
    refine wpAnyH_take (i := 0) (oi := { dst := some 12, op := Go.Op.load 40 (Go.Operand.tmp 3), type := 40, pos := "exact.go:4073", after := #[], guard := none }) (v := ?_) rfl (by kernel_rfl) (by kernel_rfl) (by kernel_rfl) (fun _ _ _ h => h) (Or.inl ⟨by rfl, ?_⟩) hS ?_
    rotate_left
    · (intro w hSw; have hSw := (HSd.out w).1 hSw; go_split_ands; go_simp) <;> with_reducible rfl
    clear hS
    try simp only [Act.put, List.setIfInBounds_toArray, List.set_cons_zero, List.set_cons_succ]
    have hS := HSp.out _ bA bB
    refine wpAnyH_take (i := 2) (oi := { dst := some 14, op := Go.Op.load 40 (Go.Operand.tmp 4), type := 40, pos := "exact.go:4073", after := #[], guard := none }) (v := ?_) rfl (by kernel_rfl) (by kernel_rfl) (by kernel_rfl) (fun _ _ _ h => h) (Or.inl ⟨by rfl, ?_⟩) hS ?_
    rotate_left
    · (intro w hSw; have hSw := (HSd.out w).1 hSw; go_split_ands; go_simp) <;> with_reducible rfl
    clear hS
    try simp only [Act.put, List.setIfInBounds_toArray, List.set_cons_zero, List.set_cons_succ]
    have hS := HSp.out _ bA bB
    refine wpAnyH_take (i := 4) (oi := { dst := some 16, op := Go.Op.move (Go.Operand.tmp 2), type := 2, pos := "exact.go:4073", after := #[], guard := none }) (v := ?_) rfl (by kernel_rfl) (by kernel_rfl) (by kernel_rfl) (fun _ _ _ h => h) (Or.inl ⟨by rfl, ?_⟩) hS ?_
    rotate_left
    · (intro w hSw; have hSw := (HSd.out w).1 hSw; go_split_ands; go_simp) <;> with_reducible rfl
    clear hS
    try simp only [Act.put, List.setIfInBounds_toArray, List.set_cons_zero, List.set_cons_succ]
    refine wpAnyH_ready (rs := [1]) (by decide +kernel) (by simp) ?_
    refine AllReadyH.cons (o := { dst := some 13, op := Go.Op.call { callee := Go.Callee.value (Go.Operand.func 27), args := #[Go.Operand.tmp 12], argTypes := #[40] }, type := 44, pos := "exact.go:4073", after := #[{ on := 0, ground := Go.Ground.data }], guard := none }) rfl (fun Kn hK => ?_) AllReadyH.nil
    first | go_at_call 27 | (go_simp; go_at_call 27)
    (with_reducible refine Calls.mono (ttk_any _ _ _ _ _) ?_)
    rintro e V1 ⟨rfl, hb⟩
    try dsimp only
    try simp only [Act.put, List.setIfInBounds_toArray, List.set_cons_zero, List.set_cons_succ]
    replace bA := bA.on hb
    replace bB := bB.on hb
    replace HW := Lib.hid (bel_end HW.out hb)
    clear hb
    refine hK.out _ _ (HSp.out _ bA bB) (fun _ => ?_)
    clear hK Kn
    refine wpAnyH_ready (rs := [3]) (by decide +kernel) (by simp) ?_
    refine AllReadyH.cons (o := { dst := some 15, op := Go.Op.call { callee := Go.Callee.value (Go.Operand.func 27), args := #[Go.Operand.tmp 14], argTypes := #[40] }, type := 44, pos := "exact.go:4073", after := #[{ on := 2, ground := Go.Ground.data }, { on := 1, ground := Go.Ground.chain }], guard := none }) rfl (fun Kn hK => ?_) AllReadyH.nil
    first | go_at_call 27 | (go_simp; go_at_call 27)
    (with_reducible refine Calls.mono (ttk_any _ _ _ _ _) ?_)
    rintro e V2 ⟨rfl, hb⟩
    try dsimp only
    try simp only [Act.put, List.setIfInBounds_toArray, List.set_cons_zero, List.set_cons_succ]
    replace bA := bA.on hb
    replace bB := bB.on hb
    replace HW := Lib.hid (bel_end HW.out hb)
    clear hb
    refine hK.out _ _ (HSp.out _ bA bB) (fun _ => ?_)
    clear hK Kn
    refine wpAnyH_ready (rs := [5]) (by decide +kernel) (by simp) ?_
    refine AllReadyH.cons (o := { dst := some 17, op := Go.Op.call { callee := Go.Callee.value (Go.Operand.func 34), args := #[Go.Operand.tmp 13, Go.Operand.tmp 15, Go.Operand.tmp 16], argTypes := #[44, 44, 2] }, type := 28, pos := "exact.go:4073", after := #[{ on := 1, ground := Go.Ground.data }, { on := 3, ground := Go.Ground.data }, { on := 4, ground := Go.Ground.data }, { on := 3, ground := Go.Ground.chain }], guard := none }) rfl (fun Kn hK => ?_) AllReadyH.nil
    first | go_at_call 34 | (go_simp; go_at_call 34)
    (with_reducible refine Calls.mono (S1.out _) ?_)
    rintro e V3 ⟨rfl, hb⟩
    try dsimp only
    try simp only [Act.put, List.setIfInBounds_toArray, List.set_cons_zero, List.set_cons_succ]
    replace bA := bA.on hb
    replace bB := bB.on hb
    replace HW := Lib.hid (bel_end HW.out hb)
    clear hb
    refine hK.out _ _ (HSp.out _ bA bB) (fun _ => ?_)
    clear hK Kn
    have hS := HSp.out _ bA bB
    refine wpAnyH_take (i := 6) (oi := { dst := some 11, op := Go.Op.move (Go.Operand.tmp 17), type := 28, pos := "exact.go:4073", after := #[{ on := 5, ground := Go.Ground.data }], guard := none }) (v := ?_) rfl (by kernel_rfl) (by kernel_rfl) (by kernel_rfl) (fun _ _ _ h => h) (Or.inl ⟨by rfl, ?_⟩) hS ?_
    rotate_left
    · (intro w hSw; have hSw := (HSd.out w).1 hSw; go_split_ands; go_simp) <;> with_reducible rfl
    clear hS
    try simp only [Act.put, List.setIfInBounds_toArray, List.set_cons_zero, List.set_cons_succ]
    have hS := HSp.out _ bA bB
    refine wpAnyH_take (i := 7) (oi := { dst := some 18, op := Go.Op.extract (Go.Operand.tmp 11) 0, type := 2, pos := "exact.go:4073", after := #[{ on := 6, ground := Go.Ground.data }], guard := none }) (v := ?_) rfl (by kernel_rfl) (by kernel_rfl) (by kernel_rfl) (fun _ _ _ h => h) (Or.inl ⟨by rfl, ?_⟩) hS ?_
    rotate_left
    · (intro w hSw; have hSw := (HSd.out w).1 hSw; go_split_ands; go_simp) <;> with_reducible rfl
    clear hS
    try simp only [Act.put, List.setIfInBounds_toArray, List.set_cons_zero, List.set_cons_succ]
    have hS := HSp.out _ bA bB
    refine wpAnyH_take (i := 8) (oi := { dst := some 19, op := Go.Op.extract (Go.Operand.tmp 11) 1, type := 2, pos := "exact.go:4073", after := #[{ on := 6, ground := Go.Ground.data }, { on := 9, ground := Go.Ground.gcOnly Go.Departure.lateStores }], guard := none }) (v := ?_) rfl (by kernel_rfl) (by kernel_rfl) (by kernel_rfl) (fun _ _ _ h => h) (Or.inl ⟨by rfl, ?_⟩) hS ?_
    rotate_left
    · (intro w hSw; have hSw := (HSd.out w).1 hSw; go_split_ands; go_simp) <;> with_reducible rfl
    clear hS
    try simp only [Act.put, List.setIfInBounds_toArray, List.set_cons_zero, List.set_cons_succ]
    have hS := HSp.out _ bA bB
    refine wpAnyH_take (i := 9) (oi := { dst := some 7, op := Go.Op.assign (Go.Operand.tmp 18), type := 2, pos := "exact.go:4073", after := #[{ on := 7, ground := Go.Ground.data }, { on := 5, ground := Go.Ground.chain }, { on := 0, ground := Go.Ground.phase }, { on := 1, ground := Go.Ground.phase }, { on := 2, ground := Go.Ground.phase }, { on := 3, ground := Go.Ground.phase }, { on := 4, ground := Go.Ground.phase }, { on := 5, ground := Go.Ground.phase }, { on := 6, ground := Go.Ground.phase }, { on := 7, ground := Go.Ground.phase }, { on := 8, ground := Go.Ground.textOnly Go.Departure.lateStores }], guard := none }) (v := ?_) rfl (by kernel_rfl) (by kernel_rfl) (by kernel_rfl) (fun _ _ _ h => h) (Or.inl ⟨by rfl, ?_⟩) hS ?_
    rotate_left
    · (intro w hSw; have hSw := (HSd.out w).1 hSw; go_split_ands; go_simp) <;> with_reducible rfl
    clear hS
    try simp only [Act.put, List.setIfInBounds_toArray, List.set_cons_zero, List.set_cons_succ]
    have hS := HSp.out _ bA bB
    refine wpAnyH_take (i := 10) (oi := { dst := some 8, op := Go.Op.assign (Go.Operand.tmp 19), type := 2, pos := "exact.go:4073", after := #[{ on := 8, ground := Go.Ground.data }, { on := 9, ground := Go.Ground.chain }, { on := 0, ground := Go.Ground.phase }, { on := 1, ground := Go.Ground.phase }, { on := 2, ground := Go.Ground.phase }, { on := 3, ground := Go.Ground.phase }, { on := 4, ground := Go.Ground.phase }, { on := 5, ground := Go.Ground.phase }, { on := 6, ground := Go.Ground.phase }, { on := 7, ground := Go.Ground.phase }, { on := 8, ground := Go.Ground.phase }, { on := 9, ground := Go.Ground.phase }], guard := none }) (v := ?_) rfl (by kernel_rfl) (by kernel_rfl) (by kernel_rfl) (fun _ _ _ h => h) (Or.inl ⟨by rfl, ?_⟩) hS ?_
    rotate_left
    · (intro w hSw; have hSw := (HSd.out w).1 hSw; go_split_ands; go_simp) <;> with_reducible rfl
    clear hS
    try simp only [Act.put, List.setIfInBounds_toArray, List.set_cons_zero, List.set_cons_succ]
    refine wpAnyH_done (by kernel_rfl) ?_ _
    go_wp2_with fail
    go_meet
    exact ⟨rfl, rfl, HW.out⟩
  case rest =>
    obtain ⟨rfl, rfl, hb⟩ := hcut
    replace bA := bA.on hb
    replace bB := bB.on hb
    replace HB := Lib.hid (bel_end HB.out hb)
    clear hb
    obtain ⟨WCa, hWC⟩ : ∃ W, W = wc := ⟨_, rfl⟩
    skip
    have bA_0 := bA.cell 0 rfl
    have bA_1 := bA.cell 1 rfl
    have bA_2 := bA.cell 2 rfl
    have bA_3 := bA.cell 3 rfl
    have bA_l := bA.lt
    have bB_0 := bB.cell 0 rfl
    have bB_1 := bB.cell 1 rfl
    have bB_2 := bB.cell 2 rfl
    have bB_3 := bB.cell 3 rfl
    have bB_l := bB.lt
    go_upto_region 2 with fail
    clear bA_0 bA_1 bA_2 bA_3 bA_l bB_0 bB_1 bB_2 bB_3 bB_l
    go_cut [9, 10] (fun s9 s10 wx => s9 = .int .i64 (Z) ∧ s10 = .int .i64 (C) ∧ Below wc.heap.size wc wx)
    case first =>
      have HW : Hid (Below wc.heap.size wc wc) := Lib.hid (Below.refl _ _)
      obtain ⟨S, hSd⟩ : ∃ S : World → Prop, ∀ w', S w' ↔ (w'.cell? ⟨w.heap.size, 0, none⟩ = some (.int .i64 a1) ∧ w'.cell? ⟨w.heap.size, 1, none⟩ = some (.int .i64 a2) ∧ w'.cell? ⟨w.heap.size, 2, none⟩ = some (.int .i64 a3) ∧ w'.cell? ⟨w.heap.size, 3, none⟩ = some (.int .i64 a4) ∧ w'.cell? ⟨w.heap.size + 1, 0, none⟩ = some (.int .i64 b1) ∧ w'.cell? ⟨w.heap.size + 1, 1, none⟩ = some (.int .i64 b2) ∧ w'.cell? ⟨w.heap.size + 1, 2, none⟩ = some (.int .i64 b3) ∧ w'.cell? ⟨w.heap.size + 1, 3, none⟩ = some (.int .i64 b4)) := ⟨_, fun _ => Iff.rfl⟩
      have HSp : Hid (∀ w' : World, Bk w' (w.heap.size) #[.int .i64 a1, .int .i64 a2, .int .i64 a3, .int .i64 a4] 40 → Bk w' (w.heap.size + 1) #[.int .i64 b1, .int .i64 b2, .int .i64 b3, .int .i64 b4] 40 → S w') := Lib.hid (fun w' bA bB => (hSd w').2 ⟨bA.cell 0 rfl, bA.cell 1 rfl, bA.cell 2 rfl, bA.cell 3 rfl, bB.cell 0 rfl, bB.cell 1 rfl, bB.cell 2 rfl, bB.cell 3 rfl⟩)
      have HSd := Lib.hid hSd
      clear hSd
      refine wp_region_held_drew (S := S) (by kernel_rfl) ?_ (fun hH => ?_)
      · exact (HSp.out _ bA bB : S (World.drew wc))
      clear hH
      generalize hX : World.drew wc = V0
      replace bA : Bk V0 (w.heap.size) #[.int .i64 a1, .int .i64 a2, .int .i64 a3, .int .i64 a4] 40 := by rw [← hX]; exact bA
      replace bB : Bk V0 (w.heap.size + 1) #[.int .i64 b1, .int .i64 b2, .int .i64 b3, .int .i64 b4] 40 := by rw [← hX]; exact bB
      have hb : Below wc.heap.size wc V0 := by rw [← hX]; exact (Below.refl _ _).drew
      clear hX
      replace HW := Lib.hid (bel_end HW.out hb)
      clear hb
      have hS := HSp.out _ bA bB
      refine wpAnyH_take (i := 0) (oi := { dst := some 21, op := Go.Op.load 40 (Go.Operand.tmp 3), type := 40, pos := "exact.go:4074", after := #[], guard := none }) (v := ?_) rfl (by kernel_rfl) (by kernel_rfl) (by kernel_rfl) (fun _ _ _ h => h) (Or.inl ⟨by rfl, ?_⟩) hS ?_
      rotate_left
      · (intro w hSw; have hSw := (HSd.out w).1 hSw; go_split_ands; go_simp) <;> with_reducible rfl
      clear hS
      try simp only [Act.put, List.setIfInBounds_toArray, List.set_cons_zero, List.set_cons_succ]
      have hS := HSp.out _ bA bB
      refine wpAnyH_take (i := 2) (oi := { dst := some 23, op := Go.Op.load 40 (Go.Operand.tmp 4), type := 40, pos := "exact.go:4074", after := #[], guard := none }) (v := ?_) rfl (by kernel_rfl) (by kernel_rfl) (by kernel_rfl) (fun _ _ _ h => h) (Or.inl ⟨by rfl, ?_⟩) hS ?_
      rotate_left
      · (intro w hSw; have hSw := (HSd.out w).1 hSw; go_split_ands; go_simp) <;> with_reducible rfl
      clear hS
      try simp only [Act.put, List.setIfInBounds_toArray, List.set_cons_zero, List.set_cons_succ]
      have hS := HSp.out _ bA bB
      refine wpAnyH_take (i := 4) (oi := { dst := some 25, op := Go.Op.move (Go.Operand.tmp 2), type := 2, pos := "exact.go:4074", after := #[], guard := none }) (v := ?_) rfl (by kernel_rfl) (by kernel_rfl) (by kernel_rfl) (fun _ _ _ h => h) (Or.inl ⟨by rfl, ?_⟩) hS ?_
      rotate_left
      · (intro w hSw; have hSw := (HSd.out w).1 hSw; go_split_ands; go_simp) <;> with_reducible rfl
      clear hS
      try simp only [Act.put, List.setIfInBounds_toArray, List.set_cons_zero, List.set_cons_succ]
      refine wpAnyH_ready (rs := [1]) (by decide +kernel) (by simp) ?_
      refine AllReadyH.cons (o := { dst := some 22, op := Go.Op.call { callee := Go.Callee.value (Go.Operand.func 27), args := #[Go.Operand.tmp 21], argTypes := #[40] }, type := 44, pos := "exact.go:4074", after := #[{ on := 0, ground := Go.Ground.data }], guard := none }) rfl (fun Kn hK => ?_) AllReadyH.nil
      first | go_at_call 27 | (go_simp; go_at_call 27)
      (with_reducible refine Calls.mono (ttk_any _ _ _ _ _) ?_)
      rintro e V1 ⟨rfl, hb⟩
      try dsimp only
      try simp only [Act.put, List.setIfInBounds_toArray, List.set_cons_zero, List.set_cons_succ]
      replace bA := bA.on hb
      replace bB := bB.on hb
      replace HW := Lib.hid (bel_end HW.out hb)
      clear hb
      refine hK.out _ _ (HSp.out _ bA bB) (fun _ => ?_)
      clear hK Kn
      refine wpAnyH_ready (rs := [3]) (by decide +kernel) (by simp) ?_
      refine AllReadyH.cons (o := { dst := some 24, op := Go.Op.call { callee := Go.Callee.value (Go.Operand.func 27), args := #[Go.Operand.tmp 23], argTypes := #[40] }, type := 44, pos := "exact.go:4074", after := #[{ on := 2, ground := Go.Ground.data }, { on := 1, ground := Go.Ground.chain }], guard := none }) rfl (fun Kn hK => ?_) AllReadyH.nil
      first | go_at_call 27 | (go_simp; go_at_call 27)
      (with_reducible refine Calls.mono (ttk_any _ _ _ _ _) ?_)
      rintro e V2 ⟨rfl, hb⟩
      try dsimp only
      try simp only [Act.put, List.setIfInBounds_toArray, List.set_cons_zero, List.set_cons_succ]
      replace bA := bA.on hb
      replace bB := bB.on hb
      replace HW := Lib.hid (bel_end HW.out hb)
      clear hb
      refine hK.out _ _ (HSp.out _ bA bB) (fun _ => ?_)
      clear hK Kn
      refine wpAnyH_ready (rs := [5]) (by decide +kernel) (by simp) ?_
      refine AllReadyH.cons (o := { dst := some 26, op := Go.Op.call { callee := Go.Callee.value (Go.Operand.func 35), args := #[Go.Operand.tmp 22, Go.Operand.tmp 24, Go.Operand.tmp 25], argTypes := #[44, 44, 2] }, type := 28, pos := "exact.go:4074", after := #[{ on := 1, ground := Go.Ground.data }, { on := 3, ground := Go.Ground.data }, { on := 4, ground := Go.Ground.data }, { on := 3, ground := Go.Ground.chain }], guard := none }) rfl (fun Kn hK => ?_) AllReadyH.nil
      first | go_at_call 35 | (go_simp; go_at_call 35)
      (with_reducible refine Calls.mono (S2.out _) ?_)
      rintro e V3 ⟨rfl, hb⟩
      try dsimp only
      try simp only [Act.put, List.setIfInBounds_toArray, List.set_cons_zero, List.set_cons_succ]
      replace bA := bA.on hb
      replace bB := bB.on hb
      replace HW := Lib.hid (bel_end HW.out hb)
      clear hb
      refine hK.out _ _ (HSp.out _ bA bB) (fun _ => ?_)
      clear hK Kn
      have hS := HSp.out _ bA bB
      refine wpAnyH_take (i := 6) (oi := { dst := some 20, op := Go.Op.move (Go.Operand.tmp 26), type := 28, pos := "exact.go:4074", after := #[{ on := 5, ground := Go.Ground.data }], guard := none }) (v := ?_) rfl (by kernel_rfl) (by kernel_rfl) (by kernel_rfl) (fun _ _ _ h => h) (Or.inl ⟨by rfl, ?_⟩) hS ?_
      rotate_left
      · (intro w hSw; have hSw := (HSd.out w).1 hSw; go_split_ands; go_simp) <;> with_reducible rfl
      clear hS
      try simp only [Act.put, List.setIfInBounds_toArray, List.set_cons_zero, List.set_cons_succ]
      have hS := HSp.out _ bA bB
      refine wpAnyH_take (i := 7) (oi := { dst := some 27, op := Go.Op.extract (Go.Operand.tmp 20) 0, type := 2, pos := "exact.go:4074", after := #[{ on := 6, ground := Go.Ground.data }], guard := none }) (v := ?_) rfl (by kernel_rfl) (by kernel_rfl) (by kernel_rfl) (fun _ _ _ h => h) (Or.inl ⟨by rfl, ?_⟩) hS ?_
      rotate_left
      · (intro w hSw; have hSw := (HSd.out w).1 hSw; go_split_ands; go_simp) <;> with_reducible rfl
      clear hS
      try simp only [Act.put, List.setIfInBounds_toArray, List.set_cons_zero, List.set_cons_succ]
      have hS := HSp.out _ bA bB
      refine wpAnyH_take (i := 8) (oi := { dst := some 28, op := Go.Op.extract (Go.Operand.tmp 20) 1, type := 2, pos := "exact.go:4074", after := #[{ on := 6, ground := Go.Ground.data }, { on := 9, ground := Go.Ground.gcOnly Go.Departure.lateStores }], guard := none }) (v := ?_) rfl (by kernel_rfl) (by kernel_rfl) (by kernel_rfl) (fun _ _ _ h => h) (Or.inl ⟨by rfl, ?_⟩) hS ?_
      rotate_left
      · (intro w hSw; have hSw := (HSd.out w).1 hSw; go_split_ands; go_simp) <;> with_reducible rfl
      clear hS
      try simp only [Act.put, List.setIfInBounds_toArray, List.set_cons_zero, List.set_cons_succ]
      have hS := HSp.out _ bA bB
      refine wpAnyH_take (i := 9) (oi := { dst := some 9, op := Go.Op.assign (Go.Operand.tmp 27), type := 2, pos := "exact.go:4074", after := #[{ on := 7, ground := Go.Ground.data }, { on := 5, ground := Go.Ground.chain }, { on := 0, ground := Go.Ground.phase }, { on := 1, ground := Go.Ground.phase }, { on := 2, ground := Go.Ground.phase }, { on := 3, ground := Go.Ground.phase }, { on := 4, ground := Go.Ground.phase }, { on := 5, ground := Go.Ground.phase }, { on := 6, ground := Go.Ground.phase }, { on := 7, ground := Go.Ground.phase }, { on := 8, ground := Go.Ground.textOnly Go.Departure.lateStores }], guard := none }) (v := ?_) rfl (by kernel_rfl) (by kernel_rfl) (by kernel_rfl) (fun _ _ _ h => h) (Or.inl ⟨by rfl, ?_⟩) hS ?_
      rotate_left
      · (intro w hSw; have hSw := (HSd.out w).1 hSw; go_split_ands; go_simp) <;> with_reducible rfl
      clear hS
      try simp only [Act.put, List.setIfInBounds_toArray, List.set_cons_zero, List.set_cons_succ]
      have hS := HSp.out _ bA bB
      refine wpAnyH_take (i := 10) (oi := { dst := some 10, op := Go.Op.assign (Go.Operand.tmp 28), type := 2, pos := "exact.go:4074", after := #[{ on := 8, ground := Go.Ground.data }, { on := 9, ground := Go.Ground.chain }, { on := 0, ground := Go.Ground.phase }, { on := 1, ground := Go.Ground.phase }, { on := 2, ground := Go.Ground.phase }, { on := 3, ground := Go.Ground.phase }, { on := 4, ground := Go.Ground.phase }, { on := 5, ground := Go.Ground.phase }, { on := 6, ground := Go.Ground.phase }, { on := 7, ground := Go.Ground.phase }, { on := 8, ground := Go.Ground.phase }, { on := 9, ground := Go.Ground.phase }], guard := none }) (v := ?_) rfl (by kernel_rfl) (by kernel_rfl) (by kernel_rfl) (fun _ _ _ h => h) (Or.inl ⟨by rfl, ?_⟩) hS ?_
      rotate_left
      · (intro w hSw; have hSw := (HSd.out w).1 hSw; go_split_ands; go_simp) <;> with_reducible rfl
      clear hS
      try simp only [Act.put, List.setIfInBounds_toArray, List.set_cons_zero, List.set_cons_succ]
      refine wpAnyH_done (by kernel_rfl) ?_ _
      go_wp2_with fail
      go_meet
      exact ⟨rfl, rfl, HW.out⟩
    case rest =>
      obtain ⟨rfl, rfl, hb⟩ := hcut
      replace bA := bA.on hb
      replace bB := bB.on hb
      replace HB := Lib.hid (bel_end HB.out hb)
      clear hb
      obtain ⟨WCb, hWC⟩ : ∃ W, W = wc := ⟨_, rfl⟩
      skip
      have bA_0 := bA.cell 0 rfl
      have bA_1 := bA.cell 1 rfl
      have bA_2 := bA.cell 2 rfl
      have bA_3 := bA.cell 3 rfl
      have bA_l := bA.lt
      have bB_0 := bB.cell 0 rfl
      have bB_1 := bB.cell 1 rfl
      have bB_2 := bB.cell 2 rfl
      have bB_3 := bB.cell 3 rfl
      have bB_l := bB.lt
      go_wp2_with fail
      clear bA_0 bA_1 bA_2 bA_3 bA_l bB_0 bB_1 bB_2 bB_3 bB_l
      go_ret
      exact ⟨rfl, HB.out⟩

set_option maxRecDepth 100000 in
set_option maxHeartbeats 8000000 in
theorem ldmt (a1 a2 a3 a4 b1 b2 b3 b4 : Int) (w : World) :
    Calls Try.prog 11 #[.agg #[.int .i64 a1, .int .i64 a2, .int .i64 a3, .int .i64 a4], .agg #[.int .i64 b1, .int .i64 b2, .int .i64 b3, .int .i64 b4]] w fun e w' => e = .returned (.bool true) ∧ Below w.heap.size w w' := by
  obtain ⟨Z, hZ⟩ : ∃ qq, dmB a1 a2 a3 a4 b1 b2 b3 b4 = qq := ⟨_, rfl⟩
  obtain ⟨C, hC⟩ : ∃ qq, dmC a1 a2 a3 a4 b1 b2 b3 b4 = qq := ⟨_, rfl⟩
  have S1 : Hid (∀ W : World, Calls Try.prog 36 #[.agg #[.int .i64 a1, .int .i64 a2, .int .i64 a3, .int .i64 a4], .agg #[.int .i64 b1, .int .i64 b2, .int .i64 b3, .int .i64 b4]] W fun e w' => e = .returned (.tuple #[.bool Z, .int .i64 C]) ∧ Below W.heap.size W w') := Lib.hid (fun W => by have := sdm_any W a1 a2 a3 a4 b1 b2 b3 b4; rwa [hZ, hC] at this)
  have S2 : Hid (∀ W : World, Calls Try.prog 37 #[.agg #[.int .i64 a1, .int .i64 a2, .int .i64 a3, .int .i64 a4], .agg #[.int .i64 b1, .int .i64 b2, .int .i64 b3, .int .i64 b4]] W fun e w' => e = .returned (.tuple #[.bool Z, .int .i64 C]) ∧ Below W.heap.size W w') := Lib.hid (fun W => by have := idm_any W a1 a2 a3 a4 b1 b2 b3 b4; rwa [hZ, hC] at this)
  clear hZ hC
  go_enter Try.func11, Try.ntmps11
  go_upto_region 1 with fail
  generalize hW : World.alloc _ _ = W
  have bA : Bk W (w.heap.size) #[.int .i64 a1, .int .i64 a2, .int .i64 a3, .int .i64 a4] 40 := by rw [← hW]; repeat (first | (refine Bk.new' ?_; (simp; done)) | refine Bk.alloc ?_ _)
  have bB : Bk W (w.heap.size + 1) #[.int .i64 b1, .int .i64 b2, .int .i64 b3, .int .i64 b4] 40 := by rw [← hW]; repeat (first | (refine Bk.new' ?_; (simp; done)) | refine Bk.alloc ?_ _)
  have HB : Hid (Below w.heap.size w W) := Lib.hid (by rw [← hW]; exact (by repeat (first | exact Below.refl _ _ | (refine Below.alloc ?_ (by simp <;> omega) _) | (refine Below.setCell ?_ (by simp <;> omega) _) | (refine Below.drew ?_) | (refine bel_drewN ?_ _))))
  clear hW
  have bA_0 := bA.cell 0 rfl
  have bA_1 := bA.cell 1 rfl
  have bA_2 := bA.cell 2 rfl
  have bA_3 := bA.cell 3 rfl
  have bA_l := bA.lt
  have bB_0 := bB.cell 0 rfl
  have bB_1 := bB.cell 1 rfl
  have bB_2 := bB.cell 2 rfl
  have bB_3 := bB.cell 3 rfl
  have bB_l := bB.lt
  go_upto_region 1 with fail
  clear bA_0 bA_1 bA_2 bA_3 bA_l bB_0 bB_1 bB_2 bB_3 bB_l
  go_cut [5, 6] (fun s5 s6 wx => s5 = .bool (Z) ∧ s6 = .int .i64 (C) ∧ Below W.heap.size W wx)
  case first =>
    have HW : Hid (Below W.heap.size W W) := Lib.hid (Below.refl _ _)
    obtain ⟨S, hSd⟩ : ∃ S : World → Prop, ∀ w', S w' ↔ (w'.cell? ⟨w.heap.size, 0, none⟩ = some (.int .i64 a1) ∧ w'.cell? ⟨w.heap.size, 1, none⟩ = some (.int .i64 a2) ∧ w'.cell? ⟨w.heap.size, 2, none⟩ = some (.int .i64 a3) ∧ w'.cell? ⟨w.heap.size, 3, none⟩ = some (.int .i64 a4) ∧ w'.cell? ⟨w.heap.size + 1, 0, none⟩ = some (.int .i64 b1) ∧ w'.cell? ⟨w.heap.size + 1, 1, none⟩ = some (.int .i64 b2) ∧ w'.cell? ⟨w.heap.size + 1, 2, none⟩ = some (.int .i64 b3) ∧ w'.cell? ⟨w.heap.size + 1, 3, none⟩ = some (.int .i64 b4)) := ⟨_, fun _ => Iff.rfl⟩
    have HSp : Hid (∀ w' : World, Bk w' (w.heap.size) #[.int .i64 a1, .int .i64 a2, .int .i64 a3, .int .i64 a4] 40 → Bk w' (w.heap.size + 1) #[.int .i64 b1, .int .i64 b2, .int .i64 b3, .int .i64 b4] 40 → S w') := Lib.hid (fun w' bA bB => (hSd w').2 ⟨bA.cell 0 rfl, bA.cell 1 rfl, bA.cell 2 rfl, bA.cell 3 rfl, bB.cell 0 rfl, bB.cell 1 rfl, bB.cell 2 rfl, bB.cell 3 rfl⟩)
    have HSd := Lib.hid hSd
    clear hSd
    refine wp_region_held_drew (S := S) (by kernel_rfl) ?_ (fun hH => ?_)
    · exact (HSp.out _ bA bB : S (World.drew W))
    clear hH
    generalize hX : World.drew W = V0
    replace bA : Bk V0 (w.heap.size) #[.int .i64 a1, .int .i64 a2, .int .i64 a3, .int .i64 a4] 40 := by rw [← hX]; exact bA
    replace bB : Bk V0 (w.heap.size + 1) #[.int .i64 b1, .int .i64 b2, .int .i64 b3, .int .i64 b4] 40 := by rw [← hX]; exact bB
    have hb : Below W.heap.size W V0 := by rw [← hX]; exact (Below.refl _ _).drew
    clear hX
    replace HW := Lib.hid (bel_end HW.out hb)
    clear hb
    have hS := HSp.out _ bA bB
    refine wpAnyH_take (i := 0) (oi := { dst := some 10, op := Go.Op.load 40 (Go.Operand.tmp 2), type := 40, pos := "exact.go:4083", after := #[], guard := none }) (v := ?_) rfl (by kernel_rfl) (by kernel_rfl) (by kernel_rfl) (fun _ _ _ h => h) (Or.inl ⟨by rfl, ?_⟩) hS ?_
    rotate_left
    · (intro w hSw; have hSw := (HSd.out w).1 hSw; go_split_ands; go_simp) <;> with_reducible rfl
    clear hS
    try simp only [Act.put, List.setIfInBounds_toArray, List.set_cons_zero, List.set_cons_succ]
    have hS := HSp.out _ bA bB
    refine wpAnyH_take (i := 2) (oi := { dst := some 12, op := Go.Op.load 40 (Go.Operand.tmp 3), type := 40, pos := "exact.go:4083", after := #[], guard := none }) (v := ?_) rfl (by kernel_rfl) (by kernel_rfl) (by kernel_rfl) (fun _ _ _ h => h) (Or.inl ⟨by rfl, ?_⟩) hS ?_
    rotate_left
    · (intro w hSw; have hSw := (HSd.out w).1 hSw; go_split_ands; go_simp) <;> with_reducible rfl
    clear hS
    try simp only [Act.put, List.setIfInBounds_toArray, List.set_cons_zero, List.set_cons_succ]
    refine wpAnyH_ready (rs := [1]) (by decide +kernel) (by simp) ?_
    refine AllReadyH.cons (o := { dst := some 11, op := Go.Op.call { callee := Go.Callee.value (Go.Operand.func 27), args := #[Go.Operand.tmp 10], argTypes := #[40] }, type := 44, pos := "exact.go:4083", after := #[{ on := 0, ground := Go.Ground.data }], guard := none }) rfl (fun Kn hK => ?_) AllReadyH.nil
    first | go_at_call 27 | (go_simp; go_at_call 27)
    (with_reducible refine Calls.mono (ttk_any _ _ _ _ _) ?_)
    rintro e V1 ⟨rfl, hb⟩
    try dsimp only
    try simp only [Act.put, List.setIfInBounds_toArray, List.set_cons_zero, List.set_cons_succ]
    replace bA := bA.on hb
    replace bB := bB.on hb
    replace HW := Lib.hid (bel_end HW.out hb)
    clear hb
    refine hK.out _ _ (HSp.out _ bA bB) (fun _ => ?_)
    clear hK Kn
    refine wpAnyH_ready (rs := [3]) (by decide +kernel) (by simp) ?_
    refine AllReadyH.cons (o := { dst := some 13, op := Go.Op.call { callee := Go.Callee.value (Go.Operand.func 27), args := #[Go.Operand.tmp 12], argTypes := #[40] }, type := 44, pos := "exact.go:4083", after := #[{ on := 2, ground := Go.Ground.data }, { on := 1, ground := Go.Ground.chain }], guard := none }) rfl (fun Kn hK => ?_) AllReadyH.nil
    first | go_at_call 27 | (go_simp; go_at_call 27)
    (with_reducible refine Calls.mono (ttk_any _ _ _ _ _) ?_)
    rintro e V2 ⟨rfl, hb⟩
    try dsimp only
    try simp only [Act.put, List.setIfInBounds_toArray, List.set_cons_zero, List.set_cons_succ]
    replace bA := bA.on hb
    replace bB := bB.on hb
    replace HW := Lib.hid (bel_end HW.out hb)
    clear hb
    refine hK.out _ _ (HSp.out _ bA bB) (fun _ => ?_)
    clear hK Kn
    refine wpAnyH_ready (rs := [4]) (by decide +kernel) (by simp) ?_
    refine AllReadyH.cons (o := { dst := some 14, op := Go.Op.call { callee := Go.Callee.value (Go.Operand.func 36), args := #[Go.Operand.tmp 11, Go.Operand.tmp 13], argTypes := #[44, 44] }, type := 53, pos := "exact.go:4083", after := #[{ on := 1, ground := Go.Ground.data }, { on := 3, ground := Go.Ground.data }, { on := 3, ground := Go.Ground.chain }], guard := none }) rfl (fun Kn hK => ?_) AllReadyH.nil
    first | go_at_call 36 | (go_simp; go_at_call 36)
    (with_reducible refine Calls.mono (S1.out _) ?_)
    rintro e V3 ⟨rfl, hb⟩
    try dsimp only
    try simp only [Act.put, List.setIfInBounds_toArray, List.set_cons_zero, List.set_cons_succ]
    replace bA := bA.on hb
    replace bB := bB.on hb
    replace HW := Lib.hid (bel_end HW.out hb)
    clear hb
    refine hK.out _ _ (HSp.out _ bA bB) (fun _ => ?_)
    clear hK Kn
    have hS := HSp.out _ bA bB
    refine wpAnyH_take (i := 5) (oi := { dst := some 9, op := Go.Op.move (Go.Operand.tmp 14), type := 53, pos := "exact.go:4083", after := #[{ on := 4, ground := Go.Ground.data }], guard := none }) (v := ?_) rfl (by kernel_rfl) (by kernel_rfl) (by kernel_rfl) (fun _ _ _ h => h) (Or.inl ⟨by rfl, ?_⟩) hS ?_
    rotate_left
    · (intro w hSw; have hSw := (HSd.out w).1 hSw; go_split_ands; go_simp) <;> with_reducible rfl
    clear hS
    try simp only [Act.put, List.setIfInBounds_toArray, List.set_cons_zero, List.set_cons_succ]
    have hS := HSp.out _ bA bB
    refine wpAnyH_take (i := 6) (oi := { dst := some 15, op := Go.Op.extract (Go.Operand.tmp 9) 0, type := 4, pos := "exact.go:4083", after := #[{ on := 5, ground := Go.Ground.data }], guard := none }) (v := ?_) rfl (by kernel_rfl) (by kernel_rfl) (by kernel_rfl) (fun _ _ _ h => h) (Or.inl ⟨by rfl, ?_⟩) hS ?_
    rotate_left
    · (intro w hSw; have hSw := (HSd.out w).1 hSw; go_split_ands; go_simp) <;> with_reducible rfl
    clear hS
    try simp only [Act.put, List.setIfInBounds_toArray, List.set_cons_zero, List.set_cons_succ]
    have hS := HSp.out _ bA bB
    refine wpAnyH_take (i := 7) (oi := { dst := some 16, op := Go.Op.extract (Go.Operand.tmp 9) 1, type := 2, pos := "exact.go:4083", after := #[{ on := 5, ground := Go.Ground.data }, { on := 8, ground := Go.Ground.gcOnly Go.Departure.lateStores }], guard := none }) (v := ?_) rfl (by kernel_rfl) (by kernel_rfl) (by kernel_rfl) (fun _ _ _ h => h) (Or.inl ⟨by rfl, ?_⟩) hS ?_
    rotate_left
    · (intro w hSw; have hSw := (HSd.out w).1 hSw; go_split_ands; go_simp) <;> with_reducible rfl
    clear hS
    try simp only [Act.put, List.setIfInBounds_toArray, List.set_cons_zero, List.set_cons_succ]
    have hS := HSp.out _ bA bB
    refine wpAnyH_take (i := 8) (oi := { dst := some 5, op := Go.Op.assign (Go.Operand.tmp 15), type := 4, pos := "exact.go:4083", after := #[{ on := 6, ground := Go.Ground.data }, { on := 4, ground := Go.Ground.chain }, { on := 0, ground := Go.Ground.phase }, { on := 1, ground := Go.Ground.phase }, { on := 2, ground := Go.Ground.phase }, { on := 3, ground := Go.Ground.phase }, { on := 4, ground := Go.Ground.phase }, { on := 5, ground := Go.Ground.phase }, { on := 6, ground := Go.Ground.phase }, { on := 7, ground := Go.Ground.textOnly Go.Departure.lateStores }], guard := none }) (v := ?_) rfl (by kernel_rfl) (by kernel_rfl) (by kernel_rfl) (fun _ _ _ h => h) (Or.inl ⟨by rfl, ?_⟩) hS ?_
    rotate_left
    · (intro w hSw; have hSw := (HSd.out w).1 hSw; go_split_ands; go_simp) <;> with_reducible rfl
    clear hS
    try simp only [Act.put, List.setIfInBounds_toArray, List.set_cons_zero, List.set_cons_succ]
    have hS := HSp.out _ bA bB
    refine wpAnyH_take (i := 9) (oi := { dst := some 6, op := Go.Op.assign (Go.Operand.tmp 16), type := 2, pos := "exact.go:4083", after := #[{ on := 7, ground := Go.Ground.data }, { on := 8, ground := Go.Ground.chain }, { on := 0, ground := Go.Ground.phase }, { on := 1, ground := Go.Ground.phase }, { on := 2, ground := Go.Ground.phase }, { on := 3, ground := Go.Ground.phase }, { on := 4, ground := Go.Ground.phase }, { on := 5, ground := Go.Ground.phase }, { on := 6, ground := Go.Ground.phase }, { on := 7, ground := Go.Ground.phase }, { on := 8, ground := Go.Ground.phase }], guard := none }) (v := ?_) rfl (by kernel_rfl) (by kernel_rfl) (by kernel_rfl) (fun _ _ _ h => h) (Or.inl ⟨by rfl, ?_⟩) hS ?_
    rotate_left
    · (intro w hSw; have hSw := (HSd.out w).1 hSw; go_split_ands; go_simp) <;> with_reducible rfl
    clear hS
    try simp only [Act.put, List.setIfInBounds_toArray, List.set_cons_zero, List.set_cons_succ]
    refine wpAnyH_done (by kernel_rfl) ?_ _
    go_wp2_with fail
    go_meet
    exact ⟨rfl, rfl, HW.out⟩
  case rest =>
    obtain ⟨rfl, rfl, hb⟩ := hcut
    replace bA := bA.on hb
    replace bB := bB.on hb
    replace HB := Lib.hid (bel_end HB.out hb)
    clear hb
    obtain ⟨WCa, hWC⟩ : ∃ W, W = wc := ⟨_, rfl⟩
    skip
    have bA_0 := bA.cell 0 rfl
    have bA_1 := bA.cell 1 rfl
    have bA_2 := bA.cell 2 rfl
    have bA_3 := bA.cell 3 rfl
    have bA_l := bA.lt
    have bB_0 := bB.cell 0 rfl
    have bB_1 := bB.cell 1 rfl
    have bB_2 := bB.cell 2 rfl
    have bB_3 := bB.cell 3 rfl
    have bB_l := bB.lt
    go_upto_region 2 with fail
    clear bA_0 bA_1 bA_2 bA_3 bA_l bB_0 bB_1 bB_2 bB_3 bB_l
    go_cut [7, 8] (fun s7 s8 wx => s7 = .bool (Z) ∧ s8 = .int .i64 (C) ∧ Below wc.heap.size wc wx)
    case first =>
      have HW : Hid (Below wc.heap.size wc wc) := Lib.hid (Below.refl _ _)
      obtain ⟨S, hSd⟩ : ∃ S : World → Prop, ∀ w', S w' ↔ (w'.cell? ⟨w.heap.size, 0, none⟩ = some (.int .i64 a1) ∧ w'.cell? ⟨w.heap.size, 1, none⟩ = some (.int .i64 a2) ∧ w'.cell? ⟨w.heap.size, 2, none⟩ = some (.int .i64 a3) ∧ w'.cell? ⟨w.heap.size, 3, none⟩ = some (.int .i64 a4) ∧ w'.cell? ⟨w.heap.size + 1, 0, none⟩ = some (.int .i64 b1) ∧ w'.cell? ⟨w.heap.size + 1, 1, none⟩ = some (.int .i64 b2) ∧ w'.cell? ⟨w.heap.size + 1, 2, none⟩ = some (.int .i64 b3) ∧ w'.cell? ⟨w.heap.size + 1, 3, none⟩ = some (.int .i64 b4)) := ⟨_, fun _ => Iff.rfl⟩
      have HSp : Hid (∀ w' : World, Bk w' (w.heap.size) #[.int .i64 a1, .int .i64 a2, .int .i64 a3, .int .i64 a4] 40 → Bk w' (w.heap.size + 1) #[.int .i64 b1, .int .i64 b2, .int .i64 b3, .int .i64 b4] 40 → S w') := Lib.hid (fun w' bA bB => (hSd w').2 ⟨bA.cell 0 rfl, bA.cell 1 rfl, bA.cell 2 rfl, bA.cell 3 rfl, bB.cell 0 rfl, bB.cell 1 rfl, bB.cell 2 rfl, bB.cell 3 rfl⟩)
      have HSd := Lib.hid hSd
      clear hSd
      refine wp_region_held_drew (S := S) (by kernel_rfl) ?_ (fun hH => ?_)
      · exact (HSp.out _ bA bB : S (World.drew wc))
      clear hH
      generalize hX : World.drew wc = V0
      replace bA : Bk V0 (w.heap.size) #[.int .i64 a1, .int .i64 a2, .int .i64 a3, .int .i64 a4] 40 := by rw [← hX]; exact bA
      replace bB : Bk V0 (w.heap.size + 1) #[.int .i64 b1, .int .i64 b2, .int .i64 b3, .int .i64 b4] 40 := by rw [← hX]; exact bB
      have hb : Below wc.heap.size wc V0 := by rw [← hX]; exact (Below.refl _ _).drew
      clear hX
      replace HW := Lib.hid (bel_end HW.out hb)
      clear hb
      have hS := HSp.out _ bA bB
      refine wpAnyH_take (i := 0) (oi := { dst := some 18, op := Go.Op.load 40 (Go.Operand.tmp 2), type := 40, pos := "exact.go:4084", after := #[], guard := none }) (v := ?_) rfl (by kernel_rfl) (by kernel_rfl) (by kernel_rfl) (fun _ _ _ h => h) (Or.inl ⟨by rfl, ?_⟩) hS ?_
      rotate_left
      · (intro w hSw; have hSw := (HSd.out w).1 hSw; go_split_ands; go_simp) <;> with_reducible rfl
      clear hS
      try simp only [Act.put, List.setIfInBounds_toArray, List.set_cons_zero, List.set_cons_succ]
      have hS := HSp.out _ bA bB
      refine wpAnyH_take (i := 2) (oi := { dst := some 20, op := Go.Op.load 40 (Go.Operand.tmp 3), type := 40, pos := "exact.go:4084", after := #[], guard := none }) (v := ?_) rfl (by kernel_rfl) (by kernel_rfl) (by kernel_rfl) (fun _ _ _ h => h) (Or.inl ⟨by rfl, ?_⟩) hS ?_
      rotate_left
      · (intro w hSw; have hSw := (HSd.out w).1 hSw; go_split_ands; go_simp) <;> with_reducible rfl
      clear hS
      try simp only [Act.put, List.setIfInBounds_toArray, List.set_cons_zero, List.set_cons_succ]
      refine wpAnyH_ready (rs := [1]) (by decide +kernel) (by simp) ?_
      refine AllReadyH.cons (o := { dst := some 19, op := Go.Op.call { callee := Go.Callee.value (Go.Operand.func 27), args := #[Go.Operand.tmp 18], argTypes := #[40] }, type := 44, pos := "exact.go:4084", after := #[{ on := 0, ground := Go.Ground.data }], guard := none }) rfl (fun Kn hK => ?_) AllReadyH.nil
      first | go_at_call 27 | (go_simp; go_at_call 27)
      (with_reducible refine Calls.mono (ttk_any _ _ _ _ _) ?_)
      rintro e V1 ⟨rfl, hb⟩
      try dsimp only
      try simp only [Act.put, List.setIfInBounds_toArray, List.set_cons_zero, List.set_cons_succ]
      replace bA := bA.on hb
      replace bB := bB.on hb
      replace HW := Lib.hid (bel_end HW.out hb)
      clear hb
      refine hK.out _ _ (HSp.out _ bA bB) (fun _ => ?_)
      clear hK Kn
      refine wpAnyH_ready (rs := [3]) (by decide +kernel) (by simp) ?_
      refine AllReadyH.cons (o := { dst := some 21, op := Go.Op.call { callee := Go.Callee.value (Go.Operand.func 27), args := #[Go.Operand.tmp 20], argTypes := #[40] }, type := 44, pos := "exact.go:4084", after := #[{ on := 2, ground := Go.Ground.data }, { on := 1, ground := Go.Ground.chain }], guard := none }) rfl (fun Kn hK => ?_) AllReadyH.nil
      first | go_at_call 27 | (go_simp; go_at_call 27)
      (with_reducible refine Calls.mono (ttk_any _ _ _ _ _) ?_)
      rintro e V2 ⟨rfl, hb⟩
      try dsimp only
      try simp only [Act.put, List.setIfInBounds_toArray, List.set_cons_zero, List.set_cons_succ]
      replace bA := bA.on hb
      replace bB := bB.on hb
      replace HW := Lib.hid (bel_end HW.out hb)
      clear hb
      refine hK.out _ _ (HSp.out _ bA bB) (fun _ => ?_)
      clear hK Kn
      refine wpAnyH_ready (rs := [4]) (by decide +kernel) (by simp) ?_
      refine AllReadyH.cons (o := { dst := some 22, op := Go.Op.call { callee := Go.Callee.value (Go.Operand.func 37), args := #[Go.Operand.tmp 19, Go.Operand.tmp 21], argTypes := #[44, 44] }, type := 53, pos := "exact.go:4084", after := #[{ on := 1, ground := Go.Ground.data }, { on := 3, ground := Go.Ground.data }, { on := 3, ground := Go.Ground.chain }], guard := none }) rfl (fun Kn hK => ?_) AllReadyH.nil
      first | go_at_call 37 | (go_simp; go_at_call 37)
      (with_reducible refine Calls.mono (S2.out _) ?_)
      rintro e V3 ⟨rfl, hb⟩
      try dsimp only
      try simp only [Act.put, List.setIfInBounds_toArray, List.set_cons_zero, List.set_cons_succ]
      replace bA := bA.on hb
      replace bB := bB.on hb
      replace HW := Lib.hid (bel_end HW.out hb)
      clear hb
      refine hK.out _ _ (HSp.out _ bA bB) (fun _ => ?_)
      clear hK Kn
      have hS := HSp.out _ bA bB
      refine wpAnyH_take (i := 5) (oi := { dst := some 17, op := Go.Op.move (Go.Operand.tmp 22), type := 53, pos := "exact.go:4084", after := #[{ on := 4, ground := Go.Ground.data }], guard := none }) (v := ?_) rfl (by kernel_rfl) (by kernel_rfl) (by kernel_rfl) (fun _ _ _ h => h) (Or.inl ⟨by rfl, ?_⟩) hS ?_
      rotate_left
      · (intro w hSw; have hSw := (HSd.out w).1 hSw; go_split_ands; go_simp) <;> with_reducible rfl
      clear hS
      try simp only [Act.put, List.setIfInBounds_toArray, List.set_cons_zero, List.set_cons_succ]
      have hS := HSp.out _ bA bB
      refine wpAnyH_take (i := 6) (oi := { dst := some 23, op := Go.Op.extract (Go.Operand.tmp 17) 0, type := 4, pos := "exact.go:4084", after := #[{ on := 5, ground := Go.Ground.data }], guard := none }) (v := ?_) rfl (by kernel_rfl) (by kernel_rfl) (by kernel_rfl) (fun _ _ _ h => h) (Or.inl ⟨by rfl, ?_⟩) hS ?_
      rotate_left
      · (intro w hSw; have hSw := (HSd.out w).1 hSw; go_split_ands; go_simp) <;> with_reducible rfl
      clear hS
      try simp only [Act.put, List.setIfInBounds_toArray, List.set_cons_zero, List.set_cons_succ]
      have hS := HSp.out _ bA bB
      refine wpAnyH_take (i := 7) (oi := { dst := some 24, op := Go.Op.extract (Go.Operand.tmp 17) 1, type := 2, pos := "exact.go:4084", after := #[{ on := 5, ground := Go.Ground.data }, { on := 8, ground := Go.Ground.gcOnly Go.Departure.lateStores }], guard := none }) (v := ?_) rfl (by kernel_rfl) (by kernel_rfl) (by kernel_rfl) (fun _ _ _ h => h) (Or.inl ⟨by rfl, ?_⟩) hS ?_
      rotate_left
      · (intro w hSw; have hSw := (HSd.out w).1 hSw; go_split_ands; go_simp) <;> with_reducible rfl
      clear hS
      try simp only [Act.put, List.setIfInBounds_toArray, List.set_cons_zero, List.set_cons_succ]
      have hS := HSp.out _ bA bB
      refine wpAnyH_take (i := 8) (oi := { dst := some 7, op := Go.Op.assign (Go.Operand.tmp 23), type := 4, pos := "exact.go:4084", after := #[{ on := 6, ground := Go.Ground.data }, { on := 4, ground := Go.Ground.chain }, { on := 0, ground := Go.Ground.phase }, { on := 1, ground := Go.Ground.phase }, { on := 2, ground := Go.Ground.phase }, { on := 3, ground := Go.Ground.phase }, { on := 4, ground := Go.Ground.phase }, { on := 5, ground := Go.Ground.phase }, { on := 6, ground := Go.Ground.phase }, { on := 7, ground := Go.Ground.textOnly Go.Departure.lateStores }], guard := none }) (v := ?_) rfl (by kernel_rfl) (by kernel_rfl) (by kernel_rfl) (fun _ _ _ h => h) (Or.inl ⟨by rfl, ?_⟩) hS ?_
      rotate_left
      · (intro w hSw; have hSw := (HSd.out w).1 hSw; go_split_ands; go_simp) <;> with_reducible rfl
      clear hS
      try simp only [Act.put, List.setIfInBounds_toArray, List.set_cons_zero, List.set_cons_succ]
      have hS := HSp.out _ bA bB
      refine wpAnyH_take (i := 9) (oi := { dst := some 8, op := Go.Op.assign (Go.Operand.tmp 24), type := 2, pos := "exact.go:4084", after := #[{ on := 7, ground := Go.Ground.data }, { on := 8, ground := Go.Ground.chain }, { on := 0, ground := Go.Ground.phase }, { on := 1, ground := Go.Ground.phase }, { on := 2, ground := Go.Ground.phase }, { on := 3, ground := Go.Ground.phase }, { on := 4, ground := Go.Ground.phase }, { on := 5, ground := Go.Ground.phase }, { on := 6, ground := Go.Ground.phase }, { on := 7, ground := Go.Ground.phase }, { on := 8, ground := Go.Ground.phase }], guard := none }) (v := ?_) rfl (by kernel_rfl) (by kernel_rfl) (by kernel_rfl) (fun _ _ _ h => h) (Or.inl ⟨by rfl, ?_⟩) hS ?_
      rotate_left
      · (intro w hSw; have hSw := (HSd.out w).1 hSw; go_split_ands; go_simp) <;> with_reducible rfl
      clear hS
      try simp only [Act.put, List.setIfInBounds_toArray, List.set_cons_zero, List.set_cons_succ]
      refine wpAnyH_done (by kernel_rfl) ?_ _
      go_wp2_with fail
      go_meet
      exact ⟨rfl, rfl, HW.out⟩
    case rest =>
      obtain ⟨rfl, rfl, hb⟩ := hcut
      replace bA := bA.on hb
      replace bB := bB.on hb
      replace HB := Lib.hid (bel_end HB.out hb)
      clear hb
      obtain ⟨WCb, hWC⟩ : ∃ W, W = wc := ⟨_, rfl⟩
      skip
      have bA_0 := bA.cell 0 rfl
      have bA_1 := bA.cell 1 rfl
      have bA_2 := bA.cell 2 rfl
      have bA_3 := bA.cell 3 rfl
      have bA_l := bA.lt
      have bB_0 := bB.cell 0 rfl
      have bB_1 := bB.cell 1 rfl
      have bB_2 := bB.cell 2 rfl
      have bB_3 := bB.cell 3 rfl
      have bB_l := bB.lt
      go_wp2_with fail
      clear bA_0 bA_1 bA_2 bA_3 bA_l bB_0 bB_1 bB_2 bB_3 bB_l
      go_ret
      exact ⟨rfl, HB.out⟩
end Go.Proofs.Ytkjpjhklnaehbaa
