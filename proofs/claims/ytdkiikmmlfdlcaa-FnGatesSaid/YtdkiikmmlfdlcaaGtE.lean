/- Conversions and comparisons of motions and contacts; the walks of the exact laws of IsMotion, MoveOn, GateCost, InGate, GatesMeet: each returns true and writes nothing that was there. -/
import Derived.Test.YtdkiikmmlfdlcaaGtB
import Derived.Test.YtdkiikmmlfdlcaaGtD
import Derived.Test.YtdkiikmmlfdlcaaBrX
import Derived.Deep.RegionHeld3
import Derived.Deep.DeepCutAuto
import Derived.Deep.DrawnRows
import Derived.Deep.RegionWith
namespace Go.Proofs.Ytdkiikmmlfdlcaa
open Go.ChangeShapes Go.WideShapes Go.ChangeAt Go.RowKit Go.Shelf Num
set_option linter.unusedVariables false
set_option linter.unusedSimpArgs false

set_option maxRecDepth 100000 in
set_option maxHeartbeats 4000000 in
theorem tmo_any (w : World) (x y u v s : Int) :
    Calls Try.prog 37 #[.agg #[.int .i64 x, .int .i64 y, .int .i64 u, .int .i64 v, .int .i64 s]] w fun e w' => e = .returned (.agg #[.int .i64 x, .int .i64 y, .int .i64 u, .int .i64 v, .int .i64 s]) ∧ Below w.heap.size w w' := by
  go_enter Try.func37, Try.ntmps37
  go_wp2
  exact bodyPost_ret (v := .agg #[.int .i64 x, .int .i64 y, .int .i64 u, .int .i64 v, .int .i64 s]) (by simp [results, Try.results37, go_sem]) rfl ⟨rfl, (by repeat (first | exact Below.refl _ _ | (refine Below.alloc ?_ (by simp <;> omega) _) | (refine Below.setCell ?_ (by simp <;> omega) _) | (refine Below.drew ?_) | (refine bel_drewN ?_ _)))⟩

set_option maxRecDepth 100000 in
set_option maxHeartbeats 2000000 in
theorem tct_any (w : World) (x y : Int) :
    Calls Try.prog 42 #[.agg #[.int .i64 x, .int .i64 y]] w fun e w' => e = .returned (.agg #[.int .i64 x, .int .i64 y]) ∧ Below w.heap.size w w' := by
  go_enter Try.func42, Try.ntmps42
  go_wp2
  exact bodyPost_ret (v := .agg #[.int .i64 x, .int .i64 y]) (by simp [results, Try.results42, go_sem]) rfl ⟨rfl, (by repeat (first | exact Below.refl _ _ | (refine Below.alloc ?_ (by simp <;> omega) _) | (refine Below.setCell ?_ (by simp <;> omega) _) | (refine Below.drew ?_) | (refine bel_drewN ?_ _)))⟩

set_option maxRecDepth 100000 in
set_option maxHeartbeats 4000000 in
theorem eqmo_any (w : World) (x y u v s : Int) :
    Calls Try.prog 41 #[.agg #[.int .i64 x, .int .i64 y, .int .i64 u, .int .i64 v, .int .i64 s], .agg #[.int .i64 x, .int .i64 y, .int .i64 u, .int .i64 v, .int .i64 s]] w fun e w' => e = .returned (.bool true) ∧ Below w.heap.size w w' := by
  go_enter Try.func41, Try.ntmps41
  go_wp2
  go_ret
  exact ⟨rfl, (by repeat (first | exact Below.refl _ _ | (refine Below.alloc ?_ (by simp <;> omega) _) | (refine Below.setCell ?_ (by simp <;> omega) _) | (refine Below.drew ?_) | (refine bel_drewN ?_ _)))⟩

set_option maxRecDepth 100000 in
set_option maxHeartbeats 2000000 in
theorem eqct_any (w : World) (x y : Int) :
    Calls Try.prog 80 #[.agg #[.int .i64 x, .int .i64 y], .agg #[.int .i64 x, .int .i64 y]] w fun e w' => e = .returned (.bool true) ∧ Below w.heap.size w w' := by
  go_enter Try.func80, Try.ntmps80
  go_wp2
  go_ret
  exact ⟨rfl, (by repeat (first | exact Below.refl _ _ | (refine Below.alloc ?_ (by simp <;> omega) _) | (refine Below.setCell ?_ (by simp <;> omega) _) | (refine Below.drew ?_) | (refine bel_drewN ?_ _)))⟩

set_option maxRecDepth 100000 in
set_option maxHeartbeats 8000000 in
theorem limo (x y u v s : Int) (w : World) :
    Calls Try.prog 5 #[.agg #[.int .i64 x, .int .i64 y, .int .i64 u, .int .i64 v, .int .i64 s]] w fun e w' => e = .returned (.bool true) ∧ Below w.heap.size w w' := by
  obtain ⟨Z, hZ⟩ : ∃ q, mtB x y u v s = q := ⟨_, rfl⟩
  have S1 : Hid (∀ W : World, Calls Try.prog 20 #[.agg #[.int .i64 x, .int .i64 y, .int .i64 u, .int .i64 v, .int .i64 s]] W fun e w' => e = .returned (.bool Z) ∧ Below W.heap.size W w') := Lib.hid (fun W => by have := smo_any W x y u v s; rwa [hZ] at this)
  have S2 : Hid (∀ W : World, Calls Try.prog 19 #[.agg #[.int .i64 x, .int .i64 y, .int .i64 u, .int .i64 v, .int .i64 s]] W fun e w' => e = .returned (.bool Z) ∧ Below W.heap.size W w') := Lib.hid (fun W => by have := imo_any W x y u v s; rwa [hZ] at this)
  clear hZ
  go_enter Try.func5, Try.ntmps5
  go_wp2_with fail
  generalize hW : World.alloc _ _ = W
  have bX : Bk W (w.heap.size) #[.int .i64 x, .int .i64 y, .int .i64 u, .int .i64 v, .int .i64 s] 53 := by rw [← hW]; repeat (first | (refine Bk.new' ?_; (simp; done)) | refine Bk.alloc ?_ _)
  have HB : Hid (Below w.heap.size w W) := Lib.hid (by rw [← hW]; exact (by repeat (first | exact Below.refl _ _ | (refine Below.alloc ?_ (by simp <;> omega) _) | (refine Below.setCell ?_ (by simp <;> omega) _) | (refine Below.drew ?_) | (refine bel_drewN ?_ _))))
  clear hW
  refine (tmo_any _ _ _ _ _ _).mono ?_
  rintro e w1 ⟨rfl, hb⟩
  replace bX := bX.on hb
  replace HB := Lib.hid (bel_end HB.out hb)
  clear hb
  have bX_0 := bX.cell 0 rfl
  have bX_1 := bX.cell 1 rfl
  have bX_2 := bX.cell 2 rfl
  have bX_3 := bX.cell 3 rfl
  have bX_4 := bX.cell 4 rfl
  have bX_l := bX.lt
  go_wp2_with fail
  refine (S1.out _).mono ?_
  rintro e w2 ⟨rfl, hb⟩
  replace bX := bX.on hb
  replace HB := Lib.hid (bel_end HB.out hb)
  clear hb
  clear bX_0 bX_1 bX_2 bX_3 bX_4 bX_l
  have bX_0 := bX.cell 0 rfl
  have bX_1 := bX.cell 1 rfl
  have bX_2 := bX.cell 2 rfl
  have bX_3 := bX.cell 3 rfl
  have bX_4 := bX.cell 4 rfl
  have bX_l := bX.lt
  go_wp2_with fail
  refine (tmo_any _ _ _ _ _ _).mono ?_
  rintro e w3 ⟨rfl, hb⟩
  replace bX := bX.on hb
  replace HB := Lib.hid (bel_end HB.out hb)
  clear hb
  clear bX_0 bX_1 bX_2 bX_3 bX_4 bX_l
  have bX_0 := bX.cell 0 rfl
  have bX_1 := bX.cell 1 rfl
  have bX_2 := bX.cell 2 rfl
  have bX_3 := bX.cell 3 rfl
  have bX_4 := bX.cell 4 rfl
  have bX_l := bX.lt
  go_wp2_with fail
  refine (S2.out _).mono ?_
  rintro e w4 ⟨rfl, hb⟩
  replace bX := bX.on hb
  replace HB := Lib.hid (bel_end HB.out hb)
  clear hb
  clear bX_0 bX_1 bX_2 bX_3 bX_4 bX_l
  have bX_0 := bX.cell 0 rfl
  have bX_1 := bX.cell 1 rfl
  have bX_2 := bX.cell 2 rfl
  have bX_3 := bX.cell 3 rfl
  have bX_4 := bX.cell 4 rfl
  have bX_l := bX.lt
  go_wp2_with fail
  clear bX_0 bX_1 bX_2 bX_3 bX_4 bX_l
  go_ret
  exact ⟨rfl, HB.out⟩

set_option maxRecDepth 100000 in
set_option maxHeartbeats 8000000 in
theorem lmvo (x y u v s n : Int) (w1 : (Lit.int .i64 n).wf = true) (w : World) :
    Calls Try.prog 7 #[.agg #[.int .i64 x, .int .i64 y, .int .i64 u, .int .i64 v, .int .i64 s], .int .i64 n] w fun e w' => e = .returned (.bool true) ∧ Below w.heap.size w w' := by
  clear w1
  obtain ⟨⟨⟨X, Y, U, V, S⟩, C⟩, hZ⟩ : ∃ q, mvT x y u v s n = q := ⟨_, rfl⟩
  have S1 : Hid (∀ W : World, Calls Try.prog 17 #[.agg #[.int .i64 x, .int .i64 y, .int .i64 u, .int .i64 v, .int .i64 s], .int .i64 n] W fun e w' => e = .returned (.tuple #[.agg #[.int .i64 X, .int .i64 Y, .int .i64 U, .int .i64 V, .int .i64 S], .int .i64 C]) ∧ Below W.heap.size W w') := Lib.hid (fun W => by have := smv14_any W x y u v s n; rwa [hZ] at this)
  have S2 : Hid (∀ W : World, Calls Try.prog 16 #[.agg #[.int .i64 x, .int .i64 y, .int .i64 u, .int .i64 v, .int .i64 s], .int .i64 n] W fun e w' => e = .returned (.tuple #[.agg #[.int .i64 X, .int .i64 Y, .int .i64 U, .int .i64 V, .int .i64 S], .int .i64 C]) ∧ Below W.heap.size W w') := Lib.hid (fun W => by have := imv14_any W x y u v s n; rwa [hZ] at this)
  clear hZ
  go_enter Try.func7, Try.ntmps7
  go_wp2_with fail
  generalize hW : World.alloc _ _ = W
  have bX : Bk W (w.heap.size) #[.int .i64 x, .int .i64 y, .int .i64 u, .int .i64 v, .int .i64 s] 53 := by rw [← hW]; repeat (first | (refine Bk.new' ?_; (simp; done)) | refine Bk.alloc ?_ _)
  have HB : Hid (Below w.heap.size w W) := Lib.hid (by rw [← hW]; exact (by repeat (first | exact Below.refl _ _ | (refine Below.alloc ?_ (by simp <;> omega) _) | (refine Below.setCell ?_ (by simp <;> omega) _) | (refine Below.drew ?_) | (refine bel_drewN ?_ _))))
  clear hW
  refine (tmo_any _ _ _ _ _ _).mono ?_
  rintro e w1 ⟨rfl, hb⟩
  replace bX := bX.on hb
  replace HB := Lib.hid (bel_end HB.out hb)
  clear hb
  have bX_0 := bX.cell 0 rfl
  have bX_1 := bX.cell 1 rfl
  have bX_2 := bX.cell 2 rfl
  have bX_3 := bX.cell 3 rfl
  have bX_4 := bX.cell 4 rfl
  have bX_l := bX.lt
  go_wp2_with fail
  refine (S1.out _).mono ?_
  rintro e w2 ⟨rfl, hb⟩
  replace bX := bX.on hb
  replace HB := Lib.hid (bel_end HB.out hb)
  clear hb
  clear bX_0 bX_1 bX_2 bX_3 bX_4 bX_l
  have bX_0 := bX.cell 0 rfl
  have bX_1 := bX.cell 1 rfl
  have bX_2 := bX.cell 2 rfl
  have bX_3 := bX.cell 3 rfl
  have bX_4 := bX.cell 4 rfl
  have bX_l := bX.lt
  go_upto_region 2 with fail
  clear bX_0 bX_1 bX_2 bX_3 bX_4 bX_l
  generalize hW : World.alloc _ _ = WRa
  obtain ⟨ga, hg⟩ : ∃ g, g = w2.heap.size := ⟨_, rfl⟩
  have bRa : Bk WRa ga #[.int .i64 X, .int .i64 Y, .int .i64 U, .int .i64 V, .int .i64 S] 25 := by rw [← hW]; exact Bk.new' hg
  have hb : Below w2.heap.size w2 WRa := by rw [← hW]; exact (Below.refl _ _).alloc (Nat.le_refl _) _
  try rw [← hg]
  clear hW hg
  replace bX := bX.on hb
  replace HB := Lib.hid (bel_end HB.out hb)
  clear hb
  have bX_0 := bX.cell 0 rfl
  have bX_1 := bX.cell 1 rfl
  have bX_2 := bX.cell 2 rfl
  have bX_3 := bX.cell 3 rfl
  have bX_4 := bX.cell 4 rfl
  have bX_l := bX.lt
  have bRa_0 := bRa.cell 0 rfl
  have bRa_1 := bRa.cell 1 rfl
  have bRa_2 := bRa.cell 2 rfl
  have bRa_3 := bRa.cell 3 rfl
  have bRa_4 := bRa.cell 4 rfl
  have bRa_l := bRa.lt
  go_wp2_with fail
  refine (tmo_any _ _ _ _ _ _).mono ?_
  rintro e w3 ⟨rfl, hb⟩
  replace bX := bX.on hb
  replace bRa := bRa.on hb
  replace HB := Lib.hid (bel_end HB.out hb)
  clear hb
  clear bX_0 bX_1 bX_2 bX_3 bX_4 bX_l bRa_0 bRa_1 bRa_2 bRa_3 bRa_4 bRa_l
  have bX_0 := bX.cell 0 rfl
  have bX_1 := bX.cell 1 rfl
  have bX_2 := bX.cell 2 rfl
  have bX_3 := bX.cell 3 rfl
  have bX_4 := bX.cell 4 rfl
  have bX_l := bX.lt
  have bRa_0 := bRa.cell 0 rfl
  have bRa_1 := bRa.cell 1 rfl
  have bRa_2 := bRa.cell 2 rfl
  have bRa_3 := bRa.cell 3 rfl
  have bRa_4 := bRa.cell 4 rfl
  have bRa_l := bRa.lt
  go_wp2_with fail
  refine (S2.out _).mono ?_
  rintro e w4 ⟨rfl, hb⟩
  replace bX := bX.on hb
  replace bRa := bRa.on hb
  replace HB := Lib.hid (bel_end HB.out hb)
  clear hb
  clear bX_0 bX_1 bX_2 bX_3 bX_4 bX_l bRa_0 bRa_1 bRa_2 bRa_3 bRa_4 bRa_l
  have bX_0 := bX.cell 0 rfl
  have bX_1 := bX.cell 1 rfl
  have bX_2 := bX.cell 2 rfl
  have bX_3 := bX.cell 3 rfl
  have bX_4 := bX.cell 4 rfl
  have bX_l := bX.lt
  have bRa_0 := bRa.cell 0 rfl
  have bRa_1 := bRa.cell 1 rfl
  have bRa_2 := bRa.cell 2 rfl
  have bRa_3 := bRa.cell 3 rfl
  have bRa_4 := bRa.cell 4 rfl
  have bRa_l := bRa.lt
  go_upto_region 3 with fail
  clear bX_0 bX_1 bX_2 bX_3 bX_4 bX_l bRa_0 bRa_1 bRa_2 bRa_3 bRa_4 bRa_l
  generalize hW : World.alloc _ _ = WRb
  obtain ⟨gb, hg⟩ : ∃ g, g = w4.heap.size := ⟨_, rfl⟩
  have bRb : Bk WRb gb #[.int .i64 X, .int .i64 Y, .int .i64 U, .int .i64 V, .int .i64 S] 25 := by rw [← hW]; exact Bk.new' hg
  have hb : Below w4.heap.size w4 WRb := by rw [← hW]; exact (Below.refl _ _).alloc (Nat.le_refl _) _
  try rw [← hg]
  clear hW hg
  replace bX := bX.on hb
  replace bRa := bRa.on hb
  replace HB := Lib.hid (bel_end HB.out hb)
  clear hb
  have bX_0 := bX.cell 0 rfl
  have bX_1 := bX.cell 1 rfl
  have bX_2 := bX.cell 2 rfl
  have bX_3 := bX.cell 3 rfl
  have bX_4 := bX.cell 4 rfl
  have bX_l := bX.lt
  have bRa_0 := bRa.cell 0 rfl
  have bRa_1 := bRa.cell 1 rfl
  have bRa_2 := bRa.cell 2 rfl
  have bRa_3 := bRa.cell 3 rfl
  have bRa_4 := bRa.cell 4 rfl
  have bRa_l := bRa.lt
  have bRb_0 := bRb.cell 0 rfl
  have bRb_1 := bRb.cell 1 rfl
  have bRb_2 := bRb.cell 2 rfl
  have bRb_3 := bRb.cell 3 rfl
  have bRb_4 := bRb.cell 4 rfl
  have bRb_l := bRb.lt
  go_wp2_with fail
  clear bX_0 bX_1 bX_2 bX_3 bX_4 bX_l bRa_0 bRa_1 bRa_2 bRa_3 bRa_4 bRa_l bRb_0 bRb_1 bRb_2 bRb_3 bRb_4 bRb_l
  refine (eqmo_any _ _ _ _ _ _).mono ?_
  try simp only [beq_self_eq_true, Bool.and_self]
  rintro e we0 ⟨rfl, hb⟩
  replace bX := bX.on hb
  replace bRa := bRa.on hb
  replace bRb := bRb.on hb
  replace HB := Lib.hid (bel_end HB.out hb)
  clear hb
  have bX_0 := bX.cell 0 rfl
  have bX_1 := bX.cell 1 rfl
  have bX_2 := bX.cell 2 rfl
  have bX_3 := bX.cell 3 rfl
  have bX_4 := bX.cell 4 rfl
  have bX_l := bX.lt
  have bRa_0 := bRa.cell 0 rfl
  have bRa_1 := bRa.cell 1 rfl
  have bRa_2 := bRa.cell 2 rfl
  have bRa_3 := bRa.cell 3 rfl
  have bRa_4 := bRa.cell 4 rfl
  have bRa_l := bRa.lt
  have bRb_0 := bRb.cell 0 rfl
  have bRb_1 := bRb.cell 1 rfl
  have bRb_2 := bRb.cell 2 rfl
  have bRb_3 := bRb.cell 3 rfl
  have bRb_4 := bRb.cell 4 rfl
  have bRb_l := bRb.lt
  go_wp2
  go_ret
  exact ⟨rfl, HB.out⟩

set_option maxRecDepth 100000 in
set_option maxHeartbeats 8000000 in
theorem lgco (x y u v s p q : Int) (w : World) :
    Calls Try.prog 8 #[.agg #[.int .i64 x, .int .i64 y, .int .i64 u, .int .i64 v, .int .i64 s], .agg #[.int .i64 p, .int .i64 q]] w fun e w' => e = .returned (.bool true) ∧ Below w.heap.size w w' := by
  obtain ⟨⟨Z, C⟩, hZ⟩ : ∃ qq, gcT x y u v s p q = qq := ⟨_, rfl⟩
  have S1 : Hid (∀ W : World, Calls Try.prog 32 #[.agg #[.int .i64 x, .int .i64 y, .int .i64 u, .int .i64 v, .int .i64 s], .agg #[.int .i64 p, .int .i64 q]] W fun e w' => e = .returned (.tuple #[.int .i64 Z, .int .i64 C]) ∧ Below W.heap.size W w') := Lib.hid (fun W => by have := sgc_any W x y u v s p q; rwa [hZ] at this)
  have S2 : Hid (∀ W : World, Calls Try.prog 31 #[.agg #[.int .i64 x, .int .i64 y, .int .i64 u, .int .i64 v, .int .i64 s], .agg #[.int .i64 p, .int .i64 q]] W fun e w' => e = .returned (.tuple #[.int .i64 Z, .int .i64 C]) ∧ Below W.heap.size W w') := Lib.hid (fun W => by have := igc_any W x y u v s p q; rwa [hZ] at this)
  clear hZ
  go_enter Try.func8, Try.ntmps8
  go_upto_region 1 with fail
  generalize hW : World.alloc _ _ = W
  have bX : Bk W (w.heap.size) #[.int .i64 x, .int .i64 y, .int .i64 u, .int .i64 v, .int .i64 s] 53 := by rw [← hW]; repeat (first | (refine Bk.new' ?_; (simp; done)) | refine Bk.alloc ?_ _)
  have bC : Bk W (w.heap.size + 1) #[.int .i64 p, .int .i64 q] 63 := by rw [← hW]; repeat (first | (refine Bk.new' ?_; (simp; done)) | refine Bk.alloc ?_ _)
  have HB : Hid (Below w.heap.size w W) := Lib.hid (by rw [← hW]; exact (by repeat (first | exact Below.refl _ _ | (refine Below.alloc ?_ (by simp <;> omega) _) | (refine Below.setCell ?_ (by simp <;> omega) _) | (refine Below.drew ?_) | (refine bel_drewN ?_ _))))
  clear hW
  have bX_0 := bX.cell 0 rfl
  have bX_1 := bX.cell 1 rfl
  have bX_2 := bX.cell 2 rfl
  have bX_3 := bX.cell 3 rfl
  have bX_4 := bX.cell 4 rfl
  have bX_l := bX.lt
  have bC_0 := bC.cell 0 rfl
  have bC_1 := bC.cell 1 rfl
  have bC_l := bC.lt
  go_upto_region 1 with fail
  clear bX_0 bX_1 bX_2 bX_3 bX_4 bX_l bC_0 bC_1 bC_l
  go_cut [5, 6] (fun s5 s6 wx => s5 = .int .i64 (Z) ∧ s6 = .int .i64 (C) ∧ Below W.heap.size W wx)
  case first =>
    have HW : Hid (Below W.heap.size W W) := Lib.hid (Below.refl _ _)
    obtain ⟨S, hSd⟩ : ∃ S : World → Prop, ∀ w', S w' ↔ (w'.cell? ⟨w.heap.size, 0, none⟩ = some (.int .i64 x) ∧ w'.cell? ⟨w.heap.size, 1, none⟩ = some (.int .i64 y) ∧ w'.cell? ⟨w.heap.size, 2, none⟩ = some (.int .i64 u) ∧ w'.cell? ⟨w.heap.size, 3, none⟩ = some (.int .i64 v) ∧ w'.cell? ⟨w.heap.size, 4, none⟩ = some (.int .i64 s) ∧ w'.cell? ⟨w.heap.size + 1, 0, none⟩ = some (.int .i64 p) ∧ w'.cell? ⟨w.heap.size + 1, 1, none⟩ = some (.int .i64 q)) := ⟨_, fun _ => Iff.rfl⟩
    have HSp : Hid (∀ w' : World, Bk w' (w.heap.size) #[.int .i64 x, .int .i64 y, .int .i64 u, .int .i64 v, .int .i64 s] 53 → Bk w' (w.heap.size + 1) #[.int .i64 p, .int .i64 q] 63 → S w') := Lib.hid (fun w' bX bC => (hSd w').2 ⟨bX.cell 0 rfl, bX.cell 1 rfl, bX.cell 2 rfl, bX.cell 3 rfl, bX.cell 4 rfl, bC.cell 0 rfl, bC.cell 1 rfl⟩)
    have HSd := Lib.hid hSd
    clear hSd
    refine wp_region_held_drew (S := S) (by kernel_rfl) ?_ (fun hH => ?_)
    · exact (HSp.out _ bX bC : S (World.drew W))
    clear hH
    generalize hX : World.drew W = V0
    replace bX : Bk V0 (w.heap.size) #[.int .i64 x, .int .i64 y, .int .i64 u, .int .i64 v, .int .i64 s] 53 := by rw [← hX]; exact bX
    replace bC : Bk V0 (w.heap.size + 1) #[.int .i64 p, .int .i64 q] 63 := by rw [← hX]; exact bC
    have hb : Below W.heap.size W V0 := by rw [← hX]; exact (Below.refl _ _).drew
    clear hX
    replace HW := Lib.hid (bel_end HW.out hb)
    clear hb
    have hS := HSp.out _ bX bC
    refine wpAnyH_take (i := 0) (oi := { dst := some 10, op := Go.Op.load 53 (Go.Operand.tmp 2), type := 53, pos := "exact.go:4219", after := #[], guard := none }) (v := ?_) rfl (by kernel_rfl) (by kernel_rfl) (by kernel_rfl) (fun _ _ _ h => h) (Or.inl ⟨by rfl, ?_⟩) hS ?_
    rotate_left
    · (intro w hSw; have hSw := (HSd.out w).1 hSw; go_split_ands; go_simp) <;> with_reducible rfl
    clear hS
    try simp only [Act.put, List.setIfInBounds_toArray, List.set_cons_zero, List.set_cons_succ]
    have hS := HSp.out _ bX bC
    refine wpAnyH_take (i := 2) (oi := { dst := some 12, op := Go.Op.load 63 (Go.Operand.tmp 3), type := 63, pos := "exact.go:4219", after := #[], guard := none }) (v := ?_) rfl (by kernel_rfl) (by kernel_rfl) (by kernel_rfl) (fun _ _ _ h => h) (Or.inl ⟨by rfl, ?_⟩) hS ?_
    rotate_left
    · (intro w hSw; have hSw := (HSd.out w).1 hSw; go_split_ands; go_simp) <;> with_reducible rfl
    clear hS
    try simp only [Act.put, List.setIfInBounds_toArray, List.set_cons_zero, List.set_cons_succ]
    refine wpAnyH_ready (rs := [1]) (by kernel_rfl) (by simp) ?_
    refine AllReadyH.cons (o := { dst := some 11, op := Go.Op.call { callee := Go.Callee.value (Go.Operand.func 37), args := #[Go.Operand.tmp 10], argTypes := #[53] }, type := 25, pos := "exact.go:4219", after := #[{ on := 0, ground := Go.Ground.data }], guard := none }) rfl (fun Kn hK => ?_) AllReadyH.nil
    first | go_at_call 37 | (go_simp; go_at_call 37)
    (with_reducible refine Calls.mono (tmo_any _ _ _ _ _ _) ?_)
    rintro e V1 ⟨rfl, hb⟩
    try dsimp only
    try simp only [Act.put, List.setIfInBounds_toArray, List.set_cons_zero, List.set_cons_succ]
    replace bX := bX.on hb
    replace bC := bC.on hb
    replace HW := Lib.hid (bel_end HW.out hb)
    clear hb
    refine hK.out _ _ (HSp.out _ bX bC) (fun _ => ?_)
    clear hK Kn
    refine wpAnyH_ready (rs := [3]) (by kernel_rfl) (by simp) ?_
    refine AllReadyH.cons (o := { dst := some 13, op := Go.Op.call { callee := Go.Callee.value (Go.Operand.func 42), args := #[Go.Operand.tmp 12], argTypes := #[63] }, type := 45, pos := "exact.go:4219", after := #[{ on := 2, ground := Go.Ground.data }, { on := 1, ground := Go.Ground.chain }], guard := none }) rfl (fun Kn hK => ?_) AllReadyH.nil
    first | go_at_call 42 | (go_simp; go_at_call 42)
    (with_reducible refine Calls.mono (tct_any _ _ _) ?_)
    rintro e V2 ⟨rfl, hb⟩
    try dsimp only
    try simp only [Act.put, List.setIfInBounds_toArray, List.set_cons_zero, List.set_cons_succ]
    replace bX := bX.on hb
    replace bC := bC.on hb
    replace HW := Lib.hid (bel_end HW.out hb)
    clear hb
    refine hK.out _ _ (HSp.out _ bX bC) (fun _ => ?_)
    clear hK Kn
    refine wpAnyH_ready (rs := [4]) (by kernel_rfl) (by simp) ?_
    refine AllReadyH.cons (o := { dst := some 14, op := Go.Op.call { callee := Go.Callee.value (Go.Operand.func 32), args := #[Go.Operand.tmp 11, Go.Operand.tmp 13], argTypes := #[25, 45] }, type := 42, pos := "exact.go:4219", after := #[{ on := 1, ground := Go.Ground.data }, { on := 3, ground := Go.Ground.data }, { on := 3, ground := Go.Ground.chain }], guard := none }) rfl (fun Kn hK => ?_) AllReadyH.nil
    first | go_at_call 32 | (go_simp; go_at_call 32)
    (with_reducible refine Calls.mono (S1.out _) ?_)
    rintro e V3 ⟨rfl, hb⟩
    try dsimp only
    try simp only [Act.put, List.setIfInBounds_toArray, List.set_cons_zero, List.set_cons_succ]
    replace bX := bX.on hb
    replace bC := bC.on hb
    replace HW := Lib.hid (bel_end HW.out hb)
    clear hb
    refine hK.out _ _ (HSp.out _ bX bC) (fun _ => ?_)
    clear hK Kn
    have hS := HSp.out _ bX bC
    refine wpAnyH_take (i := 5) (oi := { dst := some 9, op := Go.Op.move (Go.Operand.tmp 14), type := 42, pos := "exact.go:4219", after := #[{ on := 4, ground := Go.Ground.data }], guard := none }) (v := ?_) rfl (by kernel_rfl) (by kernel_rfl) (by kernel_rfl) (fun _ _ _ h => h) (Or.inl ⟨by rfl, ?_⟩) hS ?_
    rotate_left
    · (intro w hSw; have hSw := (HSd.out w).1 hSw; go_split_ands; go_simp) <;> with_reducible rfl
    clear hS
    try simp only [Act.put, List.setIfInBounds_toArray, List.set_cons_zero, List.set_cons_succ]
    have hS := HSp.out _ bX bC
    refine wpAnyH_take (i := 6) (oi := { dst := some 15, op := Go.Op.extract (Go.Operand.tmp 9) 0, type := 2, pos := "exact.go:4219", after := #[{ on := 5, ground := Go.Ground.data }], guard := none }) (v := ?_) rfl (by kernel_rfl) (by kernel_rfl) (by kernel_rfl) (fun _ _ _ h => h) (Or.inl ⟨by rfl, ?_⟩) hS ?_
    rotate_left
    · (intro w hSw; have hSw := (HSd.out w).1 hSw; go_split_ands; go_simp) <;> with_reducible rfl
    clear hS
    try simp only [Act.put, List.setIfInBounds_toArray, List.set_cons_zero, List.set_cons_succ]
    have hS := HSp.out _ bX bC
    refine wpAnyH_take (i := 7) (oi := { dst := some 16, op := Go.Op.extract (Go.Operand.tmp 9) 1, type := 2, pos := "exact.go:4219", after := #[{ on := 5, ground := Go.Ground.data }, { on := 8, ground := Go.Ground.gcOnly Go.Departure.lateStores }], guard := none }) (v := ?_) rfl (by kernel_rfl) (by kernel_rfl) (by kernel_rfl) (fun _ _ _ h => h) (Or.inl ⟨by rfl, ?_⟩) hS ?_
    rotate_left
    · (intro w hSw; have hSw := (HSd.out w).1 hSw; go_split_ands; go_simp) <;> with_reducible rfl
    clear hS
    try simp only [Act.put, List.setIfInBounds_toArray, List.set_cons_zero, List.set_cons_succ]
    have hS := HSp.out _ bX bC
    refine wpAnyH_take (i := 8) (oi := { dst := some 5, op := Go.Op.assign (Go.Operand.tmp 15), type := 2, pos := "exact.go:4219", after := #[{ on := 6, ground := Go.Ground.data }, { on := 4, ground := Go.Ground.chain }, { on := 0, ground := Go.Ground.phase }, { on := 1, ground := Go.Ground.phase }, { on := 2, ground := Go.Ground.phase }, { on := 3, ground := Go.Ground.phase }, { on := 4, ground := Go.Ground.phase }, { on := 5, ground := Go.Ground.phase }, { on := 6, ground := Go.Ground.phase }, { on := 7, ground := Go.Ground.textOnly Go.Departure.lateStores }], guard := none }) (v := ?_) rfl (by kernel_rfl) (by kernel_rfl) (by kernel_rfl) (fun _ _ _ h => h) (Or.inl ⟨by rfl, ?_⟩) hS ?_
    rotate_left
    · (intro w hSw; have hSw := (HSd.out w).1 hSw; go_split_ands; go_simp) <;> with_reducible rfl
    clear hS
    try simp only [Act.put, List.setIfInBounds_toArray, List.set_cons_zero, List.set_cons_succ]
    have hS := HSp.out _ bX bC
    refine wpAnyH_take (i := 9) (oi := { dst := some 6, op := Go.Op.assign (Go.Operand.tmp 16), type := 2, pos := "exact.go:4219", after := #[{ on := 7, ground := Go.Ground.data }, { on := 8, ground := Go.Ground.chain }, { on := 0, ground := Go.Ground.phase }, { on := 1, ground := Go.Ground.phase }, { on := 2, ground := Go.Ground.phase }, { on := 3, ground := Go.Ground.phase }, { on := 4, ground := Go.Ground.phase }, { on := 5, ground := Go.Ground.phase }, { on := 6, ground := Go.Ground.phase }, { on := 7, ground := Go.Ground.phase }, { on := 8, ground := Go.Ground.phase }], guard := none }) (v := ?_) rfl (by kernel_rfl) (by kernel_rfl) (by kernel_rfl) (fun _ _ _ h => h) (Or.inl ⟨by rfl, ?_⟩) hS ?_
    rotate_left
    · (intro w hSw; have hSw := (HSd.out w).1 hSw; go_split_ands; go_simp) <;> with_reducible rfl
    clear hS
    try simp only [Act.put, List.setIfInBounds_toArray, List.set_cons_zero, List.set_cons_succ]
    refine wpAnyH_done (by kernel_rfl) ?_ _
    go_wp2_with fail
    go_meet
    exact ⟨rfl, rfl, HW.out⟩
  case rest =>
    obtain ⟨rfl, rfl, hb⟩ := hcut
    replace bX := bX.on hb
    replace bC := bC.on hb
    replace HB := Lib.hid (bel_end HB.out hb)
    clear hb
    obtain ⟨WCa, hWC⟩ : ∃ W, W = wc := ⟨_, rfl⟩
    skip
    have bX_0 := bX.cell 0 rfl
    have bX_1 := bX.cell 1 rfl
    have bX_2 := bX.cell 2 rfl
    have bX_3 := bX.cell 3 rfl
    have bX_4 := bX.cell 4 rfl
    have bX_l := bX.lt
    have bC_0 := bC.cell 0 rfl
    have bC_1 := bC.cell 1 rfl
    have bC_l := bC.lt
    go_upto_region 2 with fail
    clear bX_0 bX_1 bX_2 bX_3 bX_4 bX_l bC_0 bC_1 bC_l
    go_cut [7, 8] (fun s7 s8 wx => s7 = .int .i64 (Z) ∧ s8 = .int .i64 (C) ∧ Below wc.heap.size wc wx)
    case first =>
      have HW : Hid (Below wc.heap.size wc wc) := Lib.hid (Below.refl _ _)
      obtain ⟨S, hSd⟩ : ∃ S : World → Prop, ∀ w', S w' ↔ (w'.cell? ⟨w.heap.size, 0, none⟩ = some (.int .i64 x) ∧ w'.cell? ⟨w.heap.size, 1, none⟩ = some (.int .i64 y) ∧ w'.cell? ⟨w.heap.size, 2, none⟩ = some (.int .i64 u) ∧ w'.cell? ⟨w.heap.size, 3, none⟩ = some (.int .i64 v) ∧ w'.cell? ⟨w.heap.size, 4, none⟩ = some (.int .i64 s) ∧ w'.cell? ⟨w.heap.size + 1, 0, none⟩ = some (.int .i64 p) ∧ w'.cell? ⟨w.heap.size + 1, 1, none⟩ = some (.int .i64 q)) := ⟨_, fun _ => Iff.rfl⟩
      have HSp : Hid (∀ w' : World, Bk w' (w.heap.size) #[.int .i64 x, .int .i64 y, .int .i64 u, .int .i64 v, .int .i64 s] 53 → Bk w' (w.heap.size + 1) #[.int .i64 p, .int .i64 q] 63 → S w') := Lib.hid (fun w' bX bC => (hSd w').2 ⟨bX.cell 0 rfl, bX.cell 1 rfl, bX.cell 2 rfl, bX.cell 3 rfl, bX.cell 4 rfl, bC.cell 0 rfl, bC.cell 1 rfl⟩)
      have HSd := Lib.hid hSd
      clear hSd
      refine wp_region_held_drew (S := S) (by kernel_rfl) ?_ (fun hH => ?_)
      · exact (HSp.out _ bX bC : S (World.drew wc))
      clear hH
      generalize hX : World.drew wc = V0
      replace bX : Bk V0 (w.heap.size) #[.int .i64 x, .int .i64 y, .int .i64 u, .int .i64 v, .int .i64 s] 53 := by rw [← hX]; exact bX
      replace bC : Bk V0 (w.heap.size + 1) #[.int .i64 p, .int .i64 q] 63 := by rw [← hX]; exact bC
      have hb : Below wc.heap.size wc V0 := by rw [← hX]; exact (Below.refl _ _).drew
      clear hX
      replace HW := Lib.hid (bel_end HW.out hb)
      clear hb
      have hS := HSp.out _ bX bC
      refine wpAnyH_take (i := 0) (oi := { dst := some 18, op := Go.Op.load 53 (Go.Operand.tmp 2), type := 53, pos := "exact.go:4220", after := #[], guard := none }) (v := ?_) rfl (by kernel_rfl) (by kernel_rfl) (by kernel_rfl) (fun _ _ _ h => h) (Or.inl ⟨by rfl, ?_⟩) hS ?_
      rotate_left
      · (intro w hSw; have hSw := (HSd.out w).1 hSw; go_split_ands; go_simp) <;> with_reducible rfl
      clear hS
      try simp only [Act.put, List.setIfInBounds_toArray, List.set_cons_zero, List.set_cons_succ]
      have hS := HSp.out _ bX bC
      refine wpAnyH_take (i := 2) (oi := { dst := some 20, op := Go.Op.load 63 (Go.Operand.tmp 3), type := 63, pos := "exact.go:4220", after := #[], guard := none }) (v := ?_) rfl (by kernel_rfl) (by kernel_rfl) (by kernel_rfl) (fun _ _ _ h => h) (Or.inl ⟨by rfl, ?_⟩) hS ?_
      rotate_left
      · (intro w hSw; have hSw := (HSd.out w).1 hSw; go_split_ands; go_simp) <;> with_reducible rfl
      clear hS
      try simp only [Act.put, List.setIfInBounds_toArray, List.set_cons_zero, List.set_cons_succ]
      refine wpAnyH_ready (rs := [1]) (by kernel_rfl) (by simp) ?_
      refine AllReadyH.cons (o := { dst := some 19, op := Go.Op.call { callee := Go.Callee.value (Go.Operand.func 37), args := #[Go.Operand.tmp 18], argTypes := #[53] }, type := 25, pos := "exact.go:4220", after := #[{ on := 0, ground := Go.Ground.data }], guard := none }) rfl (fun Kn hK => ?_) AllReadyH.nil
      first | go_at_call 37 | (go_simp; go_at_call 37)
      (with_reducible refine Calls.mono (tmo_any _ _ _ _ _ _) ?_)
      rintro e V1 ⟨rfl, hb⟩
      try dsimp only
      try simp only [Act.put, List.setIfInBounds_toArray, List.set_cons_zero, List.set_cons_succ]
      replace bX := bX.on hb
      replace bC := bC.on hb
      replace HW := Lib.hid (bel_end HW.out hb)
      clear hb
      refine hK.out _ _ (HSp.out _ bX bC) (fun _ => ?_)
      clear hK Kn
      refine wpAnyH_ready (rs := [3]) (by kernel_rfl) (by simp) ?_
      refine AllReadyH.cons (o := { dst := some 21, op := Go.Op.call { callee := Go.Callee.value (Go.Operand.func 42), args := #[Go.Operand.tmp 20], argTypes := #[63] }, type := 45, pos := "exact.go:4220", after := #[{ on := 2, ground := Go.Ground.data }, { on := 1, ground := Go.Ground.chain }], guard := none }) rfl (fun Kn hK => ?_) AllReadyH.nil
      first | go_at_call 42 | (go_simp; go_at_call 42)
      (with_reducible refine Calls.mono (tct_any _ _ _) ?_)
      rintro e V2 ⟨rfl, hb⟩
      try dsimp only
      try simp only [Act.put, List.setIfInBounds_toArray, List.set_cons_zero, List.set_cons_succ]
      replace bX := bX.on hb
      replace bC := bC.on hb
      replace HW := Lib.hid (bel_end HW.out hb)
      clear hb
      refine hK.out _ _ (HSp.out _ bX bC) (fun _ => ?_)
      clear hK Kn
      refine wpAnyH_ready (rs := [4]) (by kernel_rfl) (by simp) ?_
      refine AllReadyH.cons (o := { dst := some 22, op := Go.Op.call { callee := Go.Callee.value (Go.Operand.func 31), args := #[Go.Operand.tmp 19, Go.Operand.tmp 21], argTypes := #[25, 45] }, type := 42, pos := "exact.go:4220", after := #[{ on := 1, ground := Go.Ground.data }, { on := 3, ground := Go.Ground.data }, { on := 3, ground := Go.Ground.chain }], guard := none }) rfl (fun Kn hK => ?_) AllReadyH.nil
      first | go_at_call 31 | (go_simp; go_at_call 31)
      (with_reducible refine Calls.mono (S2.out _) ?_)
      rintro e V3 ⟨rfl, hb⟩
      try dsimp only
      try simp only [Act.put, List.setIfInBounds_toArray, List.set_cons_zero, List.set_cons_succ]
      replace bX := bX.on hb
      replace bC := bC.on hb
      replace HW := Lib.hid (bel_end HW.out hb)
      clear hb
      refine hK.out _ _ (HSp.out _ bX bC) (fun _ => ?_)
      clear hK Kn
      have hS := HSp.out _ bX bC
      refine wpAnyH_take (i := 5) (oi := { dst := some 17, op := Go.Op.move (Go.Operand.tmp 22), type := 42, pos := "exact.go:4220", after := #[{ on := 4, ground := Go.Ground.data }], guard := none }) (v := ?_) rfl (by kernel_rfl) (by kernel_rfl) (by kernel_rfl) (fun _ _ _ h => h) (Or.inl ⟨by rfl, ?_⟩) hS ?_
      rotate_left
      · (intro w hSw; have hSw := (HSd.out w).1 hSw; go_split_ands; go_simp) <;> with_reducible rfl
      clear hS
      try simp only [Act.put, List.setIfInBounds_toArray, List.set_cons_zero, List.set_cons_succ]
      have hS := HSp.out _ bX bC
      refine wpAnyH_take (i := 6) (oi := { dst := some 23, op := Go.Op.extract (Go.Operand.tmp 17) 0, type := 2, pos := "exact.go:4220", after := #[{ on := 5, ground := Go.Ground.data }], guard := none }) (v := ?_) rfl (by kernel_rfl) (by kernel_rfl) (by kernel_rfl) (fun _ _ _ h => h) (Or.inl ⟨by rfl, ?_⟩) hS ?_
      rotate_left
      · (intro w hSw; have hSw := (HSd.out w).1 hSw; go_split_ands; go_simp) <;> with_reducible rfl
      clear hS
      try simp only [Act.put, List.setIfInBounds_toArray, List.set_cons_zero, List.set_cons_succ]
      have hS := HSp.out _ bX bC
      refine wpAnyH_take (i := 7) (oi := { dst := some 24, op := Go.Op.extract (Go.Operand.tmp 17) 1, type := 2, pos := "exact.go:4220", after := #[{ on := 5, ground := Go.Ground.data }, { on := 8, ground := Go.Ground.gcOnly Go.Departure.lateStores }], guard := none }) (v := ?_) rfl (by kernel_rfl) (by kernel_rfl) (by kernel_rfl) (fun _ _ _ h => h) (Or.inl ⟨by rfl, ?_⟩) hS ?_
      rotate_left
      · (intro w hSw; have hSw := (HSd.out w).1 hSw; go_split_ands; go_simp) <;> with_reducible rfl
      clear hS
      try simp only [Act.put, List.setIfInBounds_toArray, List.set_cons_zero, List.set_cons_succ]
      have hS := HSp.out _ bX bC
      refine wpAnyH_take (i := 8) (oi := { dst := some 7, op := Go.Op.assign (Go.Operand.tmp 23), type := 2, pos := "exact.go:4220", after := #[{ on := 6, ground := Go.Ground.data }, { on := 4, ground := Go.Ground.chain }, { on := 0, ground := Go.Ground.phase }, { on := 1, ground := Go.Ground.phase }, { on := 2, ground := Go.Ground.phase }, { on := 3, ground := Go.Ground.phase }, { on := 4, ground := Go.Ground.phase }, { on := 5, ground := Go.Ground.phase }, { on := 6, ground := Go.Ground.phase }, { on := 7, ground := Go.Ground.textOnly Go.Departure.lateStores }], guard := none }) (v := ?_) rfl (by kernel_rfl) (by kernel_rfl) (by kernel_rfl) (fun _ _ _ h => h) (Or.inl ⟨by rfl, ?_⟩) hS ?_
      rotate_left
      · (intro w hSw; have hSw := (HSd.out w).1 hSw; go_split_ands; go_simp) <;> with_reducible rfl
      clear hS
      try simp only [Act.put, List.setIfInBounds_toArray, List.set_cons_zero, List.set_cons_succ]
      have hS := HSp.out _ bX bC
      refine wpAnyH_take (i := 9) (oi := { dst := some 8, op := Go.Op.assign (Go.Operand.tmp 24), type := 2, pos := "exact.go:4220", after := #[{ on := 7, ground := Go.Ground.data }, { on := 8, ground := Go.Ground.chain }, { on := 0, ground := Go.Ground.phase }, { on := 1, ground := Go.Ground.phase }, { on := 2, ground := Go.Ground.phase }, { on := 3, ground := Go.Ground.phase }, { on := 4, ground := Go.Ground.phase }, { on := 5, ground := Go.Ground.phase }, { on := 6, ground := Go.Ground.phase }, { on := 7, ground := Go.Ground.phase }, { on := 8, ground := Go.Ground.phase }], guard := none }) (v := ?_) rfl (by kernel_rfl) (by kernel_rfl) (by kernel_rfl) (fun _ _ _ h => h) (Or.inl ⟨by rfl, ?_⟩) hS ?_
      rotate_left
      · (intro w hSw; have hSw := (HSd.out w).1 hSw; go_split_ands; go_simp) <;> with_reducible rfl
      clear hS
      try simp only [Act.put, List.setIfInBounds_toArray, List.set_cons_zero, List.set_cons_succ]
      refine wpAnyH_done (by kernel_rfl) ?_ _
      go_wp2_with fail
      go_meet
      exact ⟨rfl, rfl, HW.out⟩
    case rest =>
      obtain ⟨rfl, rfl, hb⟩ := hcut
      replace bX := bX.on hb
      replace bC := bC.on hb
      replace HB := Lib.hid (bel_end HB.out hb)
      clear hb
      obtain ⟨WCb, hWC⟩ : ∃ W, W = wc := ⟨_, rfl⟩
      skip
      have bX_0 := bX.cell 0 rfl
      have bX_1 := bX.cell 1 rfl
      have bX_2 := bX.cell 2 rfl
      have bX_3 := bX.cell 3 rfl
      have bX_4 := bX.cell 4 rfl
      have bX_l := bX.lt
      have bC_0 := bC.cell 0 rfl
      have bC_1 := bC.cell 1 rfl
      have bC_l := bC.lt
      go_wp2_with fail
      clear bX_0 bX_1 bX_2 bX_3 bX_4 bX_l bC_0 bC_1 bC_l
      go_ret
      exact ⟨rfl, HB.out⟩

set_option maxRecDepth 100000 in
set_option maxHeartbeats 8000000 in
theorem ligt (x y u v s p q : Int) (w : World) :
    Calls Try.prog 9 #[.agg #[.int .i64 x, .int .i64 y, .int .i64 u, .int .i64 v, .int .i64 s], .agg #[.int .i64 p, .int .i64 q]] w fun e w' => e = .returned (.bool true) ∧ Below w.heap.size w w' := by
  obtain ⟨Z, hZ⟩ : ∃ qq, igB x y u v s p q = qq := ⟨_, rfl⟩
  obtain ⟨C, hC⟩ : ∃ qq, igC x y u v s p q = qq := ⟨_, rfl⟩
  have S1 : Hid (∀ W : World, Calls Try.prog 34 #[.agg #[.int .i64 x, .int .i64 y, .int .i64 u, .int .i64 v, .int .i64 s], .agg #[.int .i64 p, .int .i64 q]] W fun e w' => e = .returned (.tuple #[.bool Z, .int .i64 C]) ∧ Below W.heap.size W w') := Lib.hid (fun W => by have := sig_any W x y u v s p q; rwa [hZ, hC] at this)
  have S2 : Hid (∀ W : World, Calls Try.prog 33 #[.agg #[.int .i64 x, .int .i64 y, .int .i64 u, .int .i64 v, .int .i64 s], .agg #[.int .i64 p, .int .i64 q]] W fun e w' => e = .returned (.tuple #[.bool Z, .int .i64 C]) ∧ Below W.heap.size W w') := Lib.hid (fun W => by have := iig_any W x y u v s p q; rwa [hZ, hC] at this)
  clear hZ hC
  go_enter Try.func9, Try.ntmps9
  go_upto_region 1 with fail
  generalize hW : World.alloc _ _ = W
  have bX : Bk W (w.heap.size) #[.int .i64 x, .int .i64 y, .int .i64 u, .int .i64 v, .int .i64 s] 53 := by rw [← hW]; repeat (first | (refine Bk.new' ?_; (simp; done)) | refine Bk.alloc ?_ _)
  have bC : Bk W (w.heap.size + 1) #[.int .i64 p, .int .i64 q] 63 := by rw [← hW]; repeat (first | (refine Bk.new' ?_; (simp; done)) | refine Bk.alloc ?_ _)
  have HB : Hid (Below w.heap.size w W) := Lib.hid (by rw [← hW]; exact (by repeat (first | exact Below.refl _ _ | (refine Below.alloc ?_ (by simp <;> omega) _) | (refine Below.setCell ?_ (by simp <;> omega) _) | (refine Below.drew ?_) | (refine bel_drewN ?_ _))))
  clear hW
  have bX_0 := bX.cell 0 rfl
  have bX_1 := bX.cell 1 rfl
  have bX_2 := bX.cell 2 rfl
  have bX_3 := bX.cell 3 rfl
  have bX_4 := bX.cell 4 rfl
  have bX_l := bX.lt
  have bC_0 := bC.cell 0 rfl
  have bC_1 := bC.cell 1 rfl
  have bC_l := bC.lt
  go_upto_region 1 with fail
  clear bX_0 bX_1 bX_2 bX_3 bX_4 bX_l bC_0 bC_1 bC_l
  go_cut [5, 6] (fun s5 s6 wx => s5 = .bool (Z) ∧ s6 = .int .i64 (C) ∧ Below W.heap.size W wx)
  case first =>
    have HW : Hid (Below W.heap.size W W) := Lib.hid (Below.refl _ _)
    obtain ⟨S, hSd⟩ : ∃ S : World → Prop, ∀ w', S w' ↔ (w'.cell? ⟨w.heap.size, 0, none⟩ = some (.int .i64 x) ∧ w'.cell? ⟨w.heap.size, 1, none⟩ = some (.int .i64 y) ∧ w'.cell? ⟨w.heap.size, 2, none⟩ = some (.int .i64 u) ∧ w'.cell? ⟨w.heap.size, 3, none⟩ = some (.int .i64 v) ∧ w'.cell? ⟨w.heap.size, 4, none⟩ = some (.int .i64 s) ∧ w'.cell? ⟨w.heap.size + 1, 0, none⟩ = some (.int .i64 p) ∧ w'.cell? ⟨w.heap.size + 1, 1, none⟩ = some (.int .i64 q)) := ⟨_, fun _ => Iff.rfl⟩
    have HSp : Hid (∀ w' : World, Bk w' (w.heap.size) #[.int .i64 x, .int .i64 y, .int .i64 u, .int .i64 v, .int .i64 s] 53 → Bk w' (w.heap.size + 1) #[.int .i64 p, .int .i64 q] 63 → S w') := Lib.hid (fun w' bX bC => (hSd w').2 ⟨bX.cell 0 rfl, bX.cell 1 rfl, bX.cell 2 rfl, bX.cell 3 rfl, bX.cell 4 rfl, bC.cell 0 rfl, bC.cell 1 rfl⟩)
    have HSd := Lib.hid hSd
    clear hSd
    refine wp_region_held_drew (S := S) (by kernel_rfl) ?_ (fun hH => ?_)
    · exact (HSp.out _ bX bC : S (World.drew W))
    clear hH
    generalize hX : World.drew W = V0
    replace bX : Bk V0 (w.heap.size) #[.int .i64 x, .int .i64 y, .int .i64 u, .int .i64 v, .int .i64 s] 53 := by rw [← hX]; exact bX
    replace bC : Bk V0 (w.heap.size + 1) #[.int .i64 p, .int .i64 q] 63 := by rw [← hX]; exact bC
    have hb : Below W.heap.size W V0 := by rw [← hX]; exact (Below.refl _ _).drew
    clear hX
    replace HW := Lib.hid (bel_end HW.out hb)
    clear hb
    have hS := HSp.out _ bX bC
    refine wpAnyH_take (i := 0) (oi := { dst := some 10, op := Go.Op.load 53 (Go.Operand.tmp 2), type := 53, pos := "exact.go:4229", after := #[], guard := none }) (v := ?_) rfl (by kernel_rfl) (by kernel_rfl) (by kernel_rfl) (fun _ _ _ h => h) (Or.inl ⟨by rfl, ?_⟩) hS ?_
    rotate_left
    · (intro w hSw; have hSw := (HSd.out w).1 hSw; go_split_ands; go_simp) <;> with_reducible rfl
    clear hS
    try simp only [Act.put, List.setIfInBounds_toArray, List.set_cons_zero, List.set_cons_succ]
    have hS := HSp.out _ bX bC
    refine wpAnyH_take (i := 2) (oi := { dst := some 12, op := Go.Op.load 63 (Go.Operand.tmp 3), type := 63, pos := "exact.go:4229", after := #[], guard := none }) (v := ?_) rfl (by kernel_rfl) (by kernel_rfl) (by kernel_rfl) (fun _ _ _ h => h) (Or.inl ⟨by rfl, ?_⟩) hS ?_
    rotate_left
    · (intro w hSw; have hSw := (HSd.out w).1 hSw; go_split_ands; go_simp) <;> with_reducible rfl
    clear hS
    try simp only [Act.put, List.setIfInBounds_toArray, List.set_cons_zero, List.set_cons_succ]
    refine wpAnyH_ready (rs := [1]) (by kernel_rfl) (by simp) ?_
    refine AllReadyH.cons (o := { dst := some 11, op := Go.Op.call { callee := Go.Callee.value (Go.Operand.func 37), args := #[Go.Operand.tmp 10], argTypes := #[53] }, type := 25, pos := "exact.go:4229", after := #[{ on := 0, ground := Go.Ground.data }], guard := none }) rfl (fun Kn hK => ?_) AllReadyH.nil
    first | go_at_call 37 | (go_simp; go_at_call 37)
    (with_reducible refine Calls.mono (tmo_any _ _ _ _ _ _) ?_)
    rintro e V1 ⟨rfl, hb⟩
    try dsimp only
    try simp only [Act.put, List.setIfInBounds_toArray, List.set_cons_zero, List.set_cons_succ]
    replace bX := bX.on hb
    replace bC := bC.on hb
    replace HW := Lib.hid (bel_end HW.out hb)
    clear hb
    refine hK.out _ _ (HSp.out _ bX bC) (fun _ => ?_)
    clear hK Kn
    refine wpAnyH_ready (rs := [3]) (by kernel_rfl) (by simp) ?_
    refine AllReadyH.cons (o := { dst := some 13, op := Go.Op.call { callee := Go.Callee.value (Go.Operand.func 42), args := #[Go.Operand.tmp 12], argTypes := #[63] }, type := 45, pos := "exact.go:4229", after := #[{ on := 2, ground := Go.Ground.data }, { on := 1, ground := Go.Ground.chain }], guard := none }) rfl (fun Kn hK => ?_) AllReadyH.nil
    first | go_at_call 42 | (go_simp; go_at_call 42)
    (with_reducible refine Calls.mono (tct_any _ _ _) ?_)
    rintro e V2 ⟨rfl, hb⟩
    try dsimp only
    try simp only [Act.put, List.setIfInBounds_toArray, List.set_cons_zero, List.set_cons_succ]
    replace bX := bX.on hb
    replace bC := bC.on hb
    replace HW := Lib.hid (bel_end HW.out hb)
    clear hb
    refine hK.out _ _ (HSp.out _ bX bC) (fun _ => ?_)
    clear hK Kn
    refine wpAnyH_ready (rs := [4]) (by kernel_rfl) (by simp) ?_
    refine AllReadyH.cons (o := { dst := some 14, op := Go.Op.call { callee := Go.Callee.value (Go.Operand.func 34), args := #[Go.Operand.tmp 11, Go.Operand.tmp 13], argTypes := #[25, 45] }, type := 49, pos := "exact.go:4229", after := #[{ on := 1, ground := Go.Ground.data }, { on := 3, ground := Go.Ground.data }, { on := 3, ground := Go.Ground.chain }], guard := none }) rfl (fun Kn hK => ?_) AllReadyH.nil
    first | go_at_call 34 | (go_simp; go_at_call 34)
    (with_reducible refine Calls.mono (S1.out _) ?_)
    rintro e V3 ⟨rfl, hb⟩
    try dsimp only
    try simp only [Act.put, List.setIfInBounds_toArray, List.set_cons_zero, List.set_cons_succ]
    replace bX := bX.on hb
    replace bC := bC.on hb
    replace HW := Lib.hid (bel_end HW.out hb)
    clear hb
    refine hK.out _ _ (HSp.out _ bX bC) (fun _ => ?_)
    clear hK Kn
    have hS := HSp.out _ bX bC
    refine wpAnyH_take (i := 5) (oi := { dst := some 9, op := Go.Op.move (Go.Operand.tmp 14), type := 49, pos := "exact.go:4229", after := #[{ on := 4, ground := Go.Ground.data }], guard := none }) (v := ?_) rfl (by kernel_rfl) (by kernel_rfl) (by kernel_rfl) (fun _ _ _ h => h) (Or.inl ⟨by rfl, ?_⟩) hS ?_
    rotate_left
    · (intro w hSw; have hSw := (HSd.out w).1 hSw; go_split_ands; go_simp) <;> with_reducible rfl
    clear hS
    try simp only [Act.put, List.setIfInBounds_toArray, List.set_cons_zero, List.set_cons_succ]
    have hS := HSp.out _ bX bC
    refine wpAnyH_take (i := 6) (oi := { dst := some 15, op := Go.Op.extract (Go.Operand.tmp 9) 0, type := 4, pos := "exact.go:4229", after := #[{ on := 5, ground := Go.Ground.data }], guard := none }) (v := ?_) rfl (by kernel_rfl) (by kernel_rfl) (by kernel_rfl) (fun _ _ _ h => h) (Or.inl ⟨by rfl, ?_⟩) hS ?_
    rotate_left
    · (intro w hSw; have hSw := (HSd.out w).1 hSw; go_split_ands; go_simp) <;> with_reducible rfl
    clear hS
    try simp only [Act.put, List.setIfInBounds_toArray, List.set_cons_zero, List.set_cons_succ]
    have hS := HSp.out _ bX bC
    refine wpAnyH_take (i := 7) (oi := { dst := some 16, op := Go.Op.extract (Go.Operand.tmp 9) 1, type := 2, pos := "exact.go:4229", after := #[{ on := 5, ground := Go.Ground.data }, { on := 8, ground := Go.Ground.gcOnly Go.Departure.lateStores }], guard := none }) (v := ?_) rfl (by kernel_rfl) (by kernel_rfl) (by kernel_rfl) (fun _ _ _ h => h) (Or.inl ⟨by rfl, ?_⟩) hS ?_
    rotate_left
    · (intro w hSw; have hSw := (HSd.out w).1 hSw; go_split_ands; go_simp) <;> with_reducible rfl
    clear hS
    try simp only [Act.put, List.setIfInBounds_toArray, List.set_cons_zero, List.set_cons_succ]
    have hS := HSp.out _ bX bC
    refine wpAnyH_take (i := 8) (oi := { dst := some 5, op := Go.Op.assign (Go.Operand.tmp 15), type := 4, pos := "exact.go:4229", after := #[{ on := 6, ground := Go.Ground.data }, { on := 4, ground := Go.Ground.chain }, { on := 0, ground := Go.Ground.phase }, { on := 1, ground := Go.Ground.phase }, { on := 2, ground := Go.Ground.phase }, { on := 3, ground := Go.Ground.phase }, { on := 4, ground := Go.Ground.phase }, { on := 5, ground := Go.Ground.phase }, { on := 6, ground := Go.Ground.phase }, { on := 7, ground := Go.Ground.textOnly Go.Departure.lateStores }], guard := none }) (v := ?_) rfl (by kernel_rfl) (by kernel_rfl) (by kernel_rfl) (fun _ _ _ h => h) (Or.inl ⟨by rfl, ?_⟩) hS ?_
    rotate_left
    · (intro w hSw; have hSw := (HSd.out w).1 hSw; go_split_ands; go_simp) <;> with_reducible rfl
    clear hS
    try simp only [Act.put, List.setIfInBounds_toArray, List.set_cons_zero, List.set_cons_succ]
    have hS := HSp.out _ bX bC
    refine wpAnyH_take (i := 9) (oi := { dst := some 6, op := Go.Op.assign (Go.Operand.tmp 16), type := 2, pos := "exact.go:4229", after := #[{ on := 7, ground := Go.Ground.data }, { on := 8, ground := Go.Ground.chain }, { on := 0, ground := Go.Ground.phase }, { on := 1, ground := Go.Ground.phase }, { on := 2, ground := Go.Ground.phase }, { on := 3, ground := Go.Ground.phase }, { on := 4, ground := Go.Ground.phase }, { on := 5, ground := Go.Ground.phase }, { on := 6, ground := Go.Ground.phase }, { on := 7, ground := Go.Ground.phase }, { on := 8, ground := Go.Ground.phase }], guard := none }) (v := ?_) rfl (by kernel_rfl) (by kernel_rfl) (by kernel_rfl) (fun _ _ _ h => h) (Or.inl ⟨by rfl, ?_⟩) hS ?_
    rotate_left
    · (intro w hSw; have hSw := (HSd.out w).1 hSw; go_split_ands; go_simp) <;> with_reducible rfl
    clear hS
    try simp only [Act.put, List.setIfInBounds_toArray, List.set_cons_zero, List.set_cons_succ]
    refine wpAnyH_done (by kernel_rfl) ?_ _
    go_wp2_with fail
    go_meet
    exact ⟨rfl, rfl, HW.out⟩
  case rest =>
    obtain ⟨rfl, rfl, hb⟩ := hcut
    replace bX := bX.on hb
    replace bC := bC.on hb
    replace HB := Lib.hid (bel_end HB.out hb)
    clear hb
    obtain ⟨WCa, hWC⟩ : ∃ W, W = wc := ⟨_, rfl⟩
    skip
    have bX_0 := bX.cell 0 rfl
    have bX_1 := bX.cell 1 rfl
    have bX_2 := bX.cell 2 rfl
    have bX_3 := bX.cell 3 rfl
    have bX_4 := bX.cell 4 rfl
    have bX_l := bX.lt
    have bC_0 := bC.cell 0 rfl
    have bC_1 := bC.cell 1 rfl
    have bC_l := bC.lt
    go_upto_region 2 with fail
    clear bX_0 bX_1 bX_2 bX_3 bX_4 bX_l bC_0 bC_1 bC_l
    go_cut [7, 8] (fun s7 s8 wx => s7 = .bool (Z) ∧ s8 = .int .i64 (C) ∧ Below wc.heap.size wc wx)
    case first =>
      have HW : Hid (Below wc.heap.size wc wc) := Lib.hid (Below.refl _ _)
      obtain ⟨S, hSd⟩ : ∃ S : World → Prop, ∀ w', S w' ↔ (w'.cell? ⟨w.heap.size, 0, none⟩ = some (.int .i64 x) ∧ w'.cell? ⟨w.heap.size, 1, none⟩ = some (.int .i64 y) ∧ w'.cell? ⟨w.heap.size, 2, none⟩ = some (.int .i64 u) ∧ w'.cell? ⟨w.heap.size, 3, none⟩ = some (.int .i64 v) ∧ w'.cell? ⟨w.heap.size, 4, none⟩ = some (.int .i64 s) ∧ w'.cell? ⟨w.heap.size + 1, 0, none⟩ = some (.int .i64 p) ∧ w'.cell? ⟨w.heap.size + 1, 1, none⟩ = some (.int .i64 q)) := ⟨_, fun _ => Iff.rfl⟩
      have HSp : Hid (∀ w' : World, Bk w' (w.heap.size) #[.int .i64 x, .int .i64 y, .int .i64 u, .int .i64 v, .int .i64 s] 53 → Bk w' (w.heap.size + 1) #[.int .i64 p, .int .i64 q] 63 → S w') := Lib.hid (fun w' bX bC => (hSd w').2 ⟨bX.cell 0 rfl, bX.cell 1 rfl, bX.cell 2 rfl, bX.cell 3 rfl, bX.cell 4 rfl, bC.cell 0 rfl, bC.cell 1 rfl⟩)
      have HSd := Lib.hid hSd
      clear hSd
      refine wp_region_held_drew (S := S) (by kernel_rfl) ?_ (fun hH => ?_)
      · exact (HSp.out _ bX bC : S (World.drew wc))
      clear hH
      generalize hX : World.drew wc = V0
      replace bX : Bk V0 (w.heap.size) #[.int .i64 x, .int .i64 y, .int .i64 u, .int .i64 v, .int .i64 s] 53 := by rw [← hX]; exact bX
      replace bC : Bk V0 (w.heap.size + 1) #[.int .i64 p, .int .i64 q] 63 := by rw [← hX]; exact bC
      have hb : Below wc.heap.size wc V0 := by rw [← hX]; exact (Below.refl _ _).drew
      clear hX
      replace HW := Lib.hid (bel_end HW.out hb)
      clear hb
      have hS := HSp.out _ bX bC
      refine wpAnyH_take (i := 0) (oi := { dst := some 18, op := Go.Op.load 53 (Go.Operand.tmp 2), type := 53, pos := "exact.go:4230", after := #[], guard := none }) (v := ?_) rfl (by kernel_rfl) (by kernel_rfl) (by kernel_rfl) (fun _ _ _ h => h) (Or.inl ⟨by rfl, ?_⟩) hS ?_
      rotate_left
      · (intro w hSw; have hSw := (HSd.out w).1 hSw; go_split_ands; go_simp) <;> with_reducible rfl
      clear hS
      try simp only [Act.put, List.setIfInBounds_toArray, List.set_cons_zero, List.set_cons_succ]
      have hS := HSp.out _ bX bC
      refine wpAnyH_take (i := 2) (oi := { dst := some 20, op := Go.Op.load 63 (Go.Operand.tmp 3), type := 63, pos := "exact.go:4230", after := #[], guard := none }) (v := ?_) rfl (by kernel_rfl) (by kernel_rfl) (by kernel_rfl) (fun _ _ _ h => h) (Or.inl ⟨by rfl, ?_⟩) hS ?_
      rotate_left
      · (intro w hSw; have hSw := (HSd.out w).1 hSw; go_split_ands; go_simp) <;> with_reducible rfl
      clear hS
      try simp only [Act.put, List.setIfInBounds_toArray, List.set_cons_zero, List.set_cons_succ]
      refine wpAnyH_ready (rs := [1]) (by kernel_rfl) (by simp) ?_
      refine AllReadyH.cons (o := { dst := some 19, op := Go.Op.call { callee := Go.Callee.value (Go.Operand.func 37), args := #[Go.Operand.tmp 18], argTypes := #[53] }, type := 25, pos := "exact.go:4230", after := #[{ on := 0, ground := Go.Ground.data }], guard := none }) rfl (fun Kn hK => ?_) AllReadyH.nil
      first | go_at_call 37 | (go_simp; go_at_call 37)
      (with_reducible refine Calls.mono (tmo_any _ _ _ _ _ _) ?_)
      rintro e V1 ⟨rfl, hb⟩
      try dsimp only
      try simp only [Act.put, List.setIfInBounds_toArray, List.set_cons_zero, List.set_cons_succ]
      replace bX := bX.on hb
      replace bC := bC.on hb
      replace HW := Lib.hid (bel_end HW.out hb)
      clear hb
      refine hK.out _ _ (HSp.out _ bX bC) (fun _ => ?_)
      clear hK Kn
      refine wpAnyH_ready (rs := [3]) (by kernel_rfl) (by simp) ?_
      refine AllReadyH.cons (o := { dst := some 21, op := Go.Op.call { callee := Go.Callee.value (Go.Operand.func 42), args := #[Go.Operand.tmp 20], argTypes := #[63] }, type := 45, pos := "exact.go:4230", after := #[{ on := 2, ground := Go.Ground.data }, { on := 1, ground := Go.Ground.chain }], guard := none }) rfl (fun Kn hK => ?_) AllReadyH.nil
      first | go_at_call 42 | (go_simp; go_at_call 42)
      (with_reducible refine Calls.mono (tct_any _ _ _) ?_)
      rintro e V2 ⟨rfl, hb⟩
      try dsimp only
      try simp only [Act.put, List.setIfInBounds_toArray, List.set_cons_zero, List.set_cons_succ]
      replace bX := bX.on hb
      replace bC := bC.on hb
      replace HW := Lib.hid (bel_end HW.out hb)
      clear hb
      refine hK.out _ _ (HSp.out _ bX bC) (fun _ => ?_)
      clear hK Kn
      refine wpAnyH_ready (rs := [4]) (by kernel_rfl) (by simp) ?_
      refine AllReadyH.cons (o := { dst := some 22, op := Go.Op.call { callee := Go.Callee.value (Go.Operand.func 33), args := #[Go.Operand.tmp 19, Go.Operand.tmp 21], argTypes := #[25, 45] }, type := 49, pos := "exact.go:4230", after := #[{ on := 1, ground := Go.Ground.data }, { on := 3, ground := Go.Ground.data }, { on := 3, ground := Go.Ground.chain }], guard := none }) rfl (fun Kn hK => ?_) AllReadyH.nil
      first | go_at_call 33 | (go_simp; go_at_call 33)
      (with_reducible refine Calls.mono (S2.out _) ?_)
      rintro e V3 ⟨rfl, hb⟩
      try dsimp only
      try simp only [Act.put, List.setIfInBounds_toArray, List.set_cons_zero, List.set_cons_succ]
      replace bX := bX.on hb
      replace bC := bC.on hb
      replace HW := Lib.hid (bel_end HW.out hb)
      clear hb
      refine hK.out _ _ (HSp.out _ bX bC) (fun _ => ?_)
      clear hK Kn
      have hS := HSp.out _ bX bC
      refine wpAnyH_take (i := 5) (oi := { dst := some 17, op := Go.Op.move (Go.Operand.tmp 22), type := 49, pos := "exact.go:4230", after := #[{ on := 4, ground := Go.Ground.data }], guard := none }) (v := ?_) rfl (by kernel_rfl) (by kernel_rfl) (by kernel_rfl) (fun _ _ _ h => h) (Or.inl ⟨by rfl, ?_⟩) hS ?_
      rotate_left
      · (intro w hSw; have hSw := (HSd.out w).1 hSw; go_split_ands; go_simp) <;> with_reducible rfl
      clear hS
      try simp only [Act.put, List.setIfInBounds_toArray, List.set_cons_zero, List.set_cons_succ]
      have hS := HSp.out _ bX bC
      refine wpAnyH_take (i := 6) (oi := { dst := some 23, op := Go.Op.extract (Go.Operand.tmp 17) 0, type := 4, pos := "exact.go:4230", after := #[{ on := 5, ground := Go.Ground.data }], guard := none }) (v := ?_) rfl (by kernel_rfl) (by kernel_rfl) (by kernel_rfl) (fun _ _ _ h => h) (Or.inl ⟨by rfl, ?_⟩) hS ?_
      rotate_left
      · (intro w hSw; have hSw := (HSd.out w).1 hSw; go_split_ands; go_simp) <;> with_reducible rfl
      clear hS
      try simp only [Act.put, List.setIfInBounds_toArray, List.set_cons_zero, List.set_cons_succ]
      have hS := HSp.out _ bX bC
      refine wpAnyH_take (i := 7) (oi := { dst := some 24, op := Go.Op.extract (Go.Operand.tmp 17) 1, type := 2, pos := "exact.go:4230", after := #[{ on := 5, ground := Go.Ground.data }, { on := 8, ground := Go.Ground.gcOnly Go.Departure.lateStores }], guard := none }) (v := ?_) rfl (by kernel_rfl) (by kernel_rfl) (by kernel_rfl) (fun _ _ _ h => h) (Or.inl ⟨by rfl, ?_⟩) hS ?_
      rotate_left
      · (intro w hSw; have hSw := (HSd.out w).1 hSw; go_split_ands; go_simp) <;> with_reducible rfl
      clear hS
      try simp only [Act.put, List.setIfInBounds_toArray, List.set_cons_zero, List.set_cons_succ]
      have hS := HSp.out _ bX bC
      refine wpAnyH_take (i := 8) (oi := { dst := some 7, op := Go.Op.assign (Go.Operand.tmp 23), type := 4, pos := "exact.go:4230", after := #[{ on := 6, ground := Go.Ground.data }, { on := 4, ground := Go.Ground.chain }, { on := 0, ground := Go.Ground.phase }, { on := 1, ground := Go.Ground.phase }, { on := 2, ground := Go.Ground.phase }, { on := 3, ground := Go.Ground.phase }, { on := 4, ground := Go.Ground.phase }, { on := 5, ground := Go.Ground.phase }, { on := 6, ground := Go.Ground.phase }, { on := 7, ground := Go.Ground.textOnly Go.Departure.lateStores }], guard := none }) (v := ?_) rfl (by kernel_rfl) (by kernel_rfl) (by kernel_rfl) (fun _ _ _ h => h) (Or.inl ⟨by rfl, ?_⟩) hS ?_
      rotate_left
      · (intro w hSw; have hSw := (HSd.out w).1 hSw; go_split_ands; go_simp) <;> with_reducible rfl
      clear hS
      try simp only [Act.put, List.setIfInBounds_toArray, List.set_cons_zero, List.set_cons_succ]
      have hS := HSp.out _ bX bC
      refine wpAnyH_take (i := 9) (oi := { dst := some 8, op := Go.Op.assign (Go.Operand.tmp 24), type := 2, pos := "exact.go:4230", after := #[{ on := 7, ground := Go.Ground.data }, { on := 8, ground := Go.Ground.chain }, { on := 0, ground := Go.Ground.phase }, { on := 1, ground := Go.Ground.phase }, { on := 2, ground := Go.Ground.phase }, { on := 3, ground := Go.Ground.phase }, { on := 4, ground := Go.Ground.phase }, { on := 5, ground := Go.Ground.phase }, { on := 6, ground := Go.Ground.phase }, { on := 7, ground := Go.Ground.phase }, { on := 8, ground := Go.Ground.phase }], guard := none }) (v := ?_) rfl (by kernel_rfl) (by kernel_rfl) (by kernel_rfl) (fun _ _ _ h => h) (Or.inl ⟨by rfl, ?_⟩) hS ?_
      rotate_left
      · (intro w hSw; have hSw := (HSd.out w).1 hSw; go_split_ands; go_simp) <;> with_reducible rfl
      clear hS
      try simp only [Act.put, List.setIfInBounds_toArray, List.set_cons_zero, List.set_cons_succ]
      refine wpAnyH_done (by kernel_rfl) ?_ _
      go_wp2_with fail
      go_meet
      exact ⟨rfl, rfl, HW.out⟩
    case rest =>
      obtain ⟨rfl, rfl, hb⟩ := hcut
      replace bX := bX.on hb
      replace bC := bC.on hb
      replace HB := Lib.hid (bel_end HB.out hb)
      clear hb
      obtain ⟨WCb, hWC⟩ : ∃ W, W = wc := ⟨_, rfl⟩
      skip
      have bX_0 := bX.cell 0 rfl
      have bX_1 := bX.cell 1 rfl
      have bX_2 := bX.cell 2 rfl
      have bX_3 := bX.cell 3 rfl
      have bX_4 := bX.cell 4 rfl
      have bX_l := bX.lt
      have bC_0 := bC.cell 0 rfl
      have bC_1 := bC.cell 1 rfl
      have bC_l := bC.lt
      go_wp2_with fail
      clear bX_0 bX_1 bX_2 bX_3 bX_4 bX_l bC_0 bC_1 bC_l
      go_ret
      exact ⟨rfl, HB.out⟩

set_option maxRecDepth 100000 in
set_option maxHeartbeats 8000000 in
theorem lgme (x y u v s p q a b t : Int) (w : World) :
    Calls Try.prog 13 #[.agg #[.int .i64 x, .int .i64 y, .int .i64 u, .int .i64 v, .int .i64 s], .agg #[.int .i64 p, .int .i64 q, .int .i64 a, .int .i64 b, .int .i64 t]] w fun e w' => e = .returned (.bool true) ∧ Below w.heap.size w w' := by
  obtain ⟨Z, hZ⟩ : ∃ qq, gmB x y u v s p q a b t = qq := ⟨_, rfl⟩
  obtain ⟨C, hC⟩ : ∃ qq, gmC x y u v s p q a b t = qq := ⟨_, rfl⟩
  have S1 : Hid (∀ W : World, Calls Try.prog 56 #[.agg #[.int .i64 x, .int .i64 y, .int .i64 u, .int .i64 v, .int .i64 s], .agg #[.int .i64 p, .int .i64 q, .int .i64 a, .int .i64 b, .int .i64 t]] W fun e w' => e = .returned (.tuple #[.bool Z, .int .i64 C]) ∧ Below W.heap.size W w') := Lib.hid (fun W => by have := sgm_any W x y u v s p q a b t; rwa [hZ, hC] at this)
  have S2 : Hid (∀ W : World, Calls Try.prog 57 #[.agg #[.int .i64 x, .int .i64 y, .int .i64 u, .int .i64 v, .int .i64 s], .agg #[.int .i64 p, .int .i64 q, .int .i64 a, .int .i64 b, .int .i64 t]] W fun e w' => e = .returned (.tuple #[.bool Z, .int .i64 C]) ∧ Below W.heap.size W w') := Lib.hid (fun W => by have := igm_any W x y u v s p q a b t; rwa [hZ, hC] at this)
  clear hZ hC
  go_enter Try.func13, Try.ntmps13
  go_upto_region 1 with fail
  generalize hW : World.alloc _ _ = W
  have bX : Bk W (w.heap.size) #[.int .i64 x, .int .i64 y, .int .i64 u, .int .i64 v, .int .i64 s] 53 := by rw [← hW]; repeat (first | (refine Bk.new' ?_; (simp; done)) | refine Bk.alloc ?_ _)
  have bC : Bk W (w.heap.size + 1) #[.int .i64 p, .int .i64 q, .int .i64 a, .int .i64 b, .int .i64 t] 53 := by rw [← hW]; repeat (first | (refine Bk.new' ?_; (simp; done)) | refine Bk.alloc ?_ _)
  have HB : Hid (Below w.heap.size w W) := Lib.hid (by rw [← hW]; exact (by repeat (first | exact Below.refl _ _ | (refine Below.alloc ?_ (by simp <;> omega) _) | (refine Below.setCell ?_ (by simp <;> omega) _) | (refine Below.drew ?_) | (refine bel_drewN ?_ _))))
  clear hW
  have bX_0 := bX.cell 0 rfl
  have bX_1 := bX.cell 1 rfl
  have bX_2 := bX.cell 2 rfl
  have bX_3 := bX.cell 3 rfl
  have bX_4 := bX.cell 4 rfl
  have bX_l := bX.lt
  have bC_0 := bC.cell 0 rfl
  have bC_1 := bC.cell 1 rfl
  have bC_2 := bC.cell 2 rfl
  have bC_3 := bC.cell 3 rfl
  have bC_4 := bC.cell 4 rfl
  have bC_l := bC.lt
  go_upto_region 1 with fail
  clear bX_0 bX_1 bX_2 bX_3 bX_4 bX_l bC_0 bC_1 bC_2 bC_3 bC_4 bC_l
  go_cut [5, 6] (fun s5 s6 wx => s5 = .bool (Z) ∧ s6 = .int .i64 (C) ∧ Below W.heap.size W wx)
  case first =>
    have HW : Hid (Below W.heap.size W W) := Lib.hid (Below.refl _ _)
    obtain ⟨S, hSd⟩ : ∃ S : World → Prop, ∀ w', S w' ↔ (w'.cell? ⟨w.heap.size, 0, none⟩ = some (.int .i64 x) ∧ w'.cell? ⟨w.heap.size, 1, none⟩ = some (.int .i64 y) ∧ w'.cell? ⟨w.heap.size, 2, none⟩ = some (.int .i64 u) ∧ w'.cell? ⟨w.heap.size, 3, none⟩ = some (.int .i64 v) ∧ w'.cell? ⟨w.heap.size, 4, none⟩ = some (.int .i64 s) ∧ w'.cell? ⟨w.heap.size + 1, 0, none⟩ = some (.int .i64 p) ∧ w'.cell? ⟨w.heap.size + 1, 1, none⟩ = some (.int .i64 q) ∧ w'.cell? ⟨w.heap.size + 1, 2, none⟩ = some (.int .i64 a) ∧ w'.cell? ⟨w.heap.size + 1, 3, none⟩ = some (.int .i64 b) ∧ w'.cell? ⟨w.heap.size + 1, 4, none⟩ = some (.int .i64 t)) := ⟨_, fun _ => Iff.rfl⟩
    have HSp : Hid (∀ w' : World, Bk w' (w.heap.size) #[.int .i64 x, .int .i64 y, .int .i64 u, .int .i64 v, .int .i64 s] 53 → Bk w' (w.heap.size + 1) #[.int .i64 p, .int .i64 q, .int .i64 a, .int .i64 b, .int .i64 t] 53 → S w') := Lib.hid (fun w' bX bC => (hSd w').2 ⟨bX.cell 0 rfl, bX.cell 1 rfl, bX.cell 2 rfl, bX.cell 3 rfl, bX.cell 4 rfl, bC.cell 0 rfl, bC.cell 1 rfl, bC.cell 2 rfl, bC.cell 3 rfl, bC.cell 4 rfl⟩)
    have HSd := Lib.hid hSd
    clear hSd
    refine wp_region_held_drew (S := S) (by kernel_rfl) ?_ (fun hH => ?_)
    · exact (HSp.out _ bX bC : S (World.drew W))
    clear hH
    generalize hX : World.drew W = V0
    replace bX : Bk V0 (w.heap.size) #[.int .i64 x, .int .i64 y, .int .i64 u, .int .i64 v, .int .i64 s] 53 := by rw [← hX]; exact bX
    replace bC : Bk V0 (w.heap.size + 1) #[.int .i64 p, .int .i64 q, .int .i64 a, .int .i64 b, .int .i64 t] 53 := by rw [← hX]; exact bC
    have hb : Below W.heap.size W V0 := by rw [← hX]; exact (Below.refl _ _).drew
    clear hX
    replace HW := Lib.hid (bel_end HW.out hb)
    clear hb
    have hS := HSp.out _ bX bC
    refine wpAnyH_take (i := 0) (oi := { dst := some 10, op := Go.Op.load 53 (Go.Operand.tmp 2), type := 53, pos := "exact.go:4359", after := #[], guard := none }) (v := ?_) rfl (by kernel_rfl) (by kernel_rfl) (by kernel_rfl) (fun _ _ _ h => h) (Or.inl ⟨by rfl, ?_⟩) hS ?_
    rotate_left
    · (intro w hSw; have hSw := (HSd.out w).1 hSw; go_split_ands; go_simp) <;> with_reducible rfl
    clear hS
    try simp only [Act.put, List.setIfInBounds_toArray, List.set_cons_zero, List.set_cons_succ]
    have hS := HSp.out _ bX bC
    refine wpAnyH_take (i := 2) (oi := { dst := some 12, op := Go.Op.load 53 (Go.Operand.tmp 3), type := 53, pos := "exact.go:4359", after := #[], guard := none }) (v := ?_) rfl (by kernel_rfl) (by kernel_rfl) (by kernel_rfl) (fun _ _ _ h => h) (Or.inl ⟨by rfl, ?_⟩) hS ?_
    rotate_left
    · (intro w hSw; have hSw := (HSd.out w).1 hSw; go_split_ands; go_simp) <;> with_reducible rfl
    clear hS
    try simp only [Act.put, List.setIfInBounds_toArray, List.set_cons_zero, List.set_cons_succ]
    refine wpAnyH_ready (rs := [1]) (by kernel_rfl) (by simp) ?_
    refine AllReadyH.cons (o := { dst := some 11, op := Go.Op.call { callee := Go.Callee.value (Go.Operand.func 37), args := #[Go.Operand.tmp 10], argTypes := #[53] }, type := 25, pos := "exact.go:4359", after := #[{ on := 0, ground := Go.Ground.data }], guard := none }) rfl (fun Kn hK => ?_) AllReadyH.nil
    first | go_at_call 37 | (go_simp; go_at_call 37)
    (with_reducible refine Calls.mono (tmo_any _ _ _ _ _ _) ?_)
    rintro e V1 ⟨rfl, hb⟩
    try dsimp only
    try simp only [Act.put, List.setIfInBounds_toArray, List.set_cons_zero, List.set_cons_succ]
    replace bX := bX.on hb
    replace bC := bC.on hb
    replace HW := Lib.hid (bel_end HW.out hb)
    clear hb
    refine hK.out _ _ (HSp.out _ bX bC) (fun _ => ?_)
    clear hK Kn
    refine wpAnyH_ready (rs := [3]) (by kernel_rfl) (by simp) ?_
    refine AllReadyH.cons (o := { dst := some 13, op := Go.Op.call { callee := Go.Callee.value (Go.Operand.func 37), args := #[Go.Operand.tmp 12], argTypes := #[53] }, type := 25, pos := "exact.go:4359", after := #[{ on := 2, ground := Go.Ground.data }, { on := 1, ground := Go.Ground.chain }], guard := none }) rfl (fun Kn hK => ?_) AllReadyH.nil
    first | go_at_call 37 | (go_simp; go_at_call 37)
    (with_reducible refine Calls.mono (tmo_any _ _ _ _ _ _) ?_)
    rintro e V2 ⟨rfl, hb⟩
    try dsimp only
    try simp only [Act.put, List.setIfInBounds_toArray, List.set_cons_zero, List.set_cons_succ]
    replace bX := bX.on hb
    replace bC := bC.on hb
    replace HW := Lib.hid (bel_end HW.out hb)
    clear hb
    refine hK.out _ _ (HSp.out _ bX bC) (fun _ => ?_)
    clear hK Kn
    refine wpAnyH_ready (rs := [4]) (by kernel_rfl) (by simp) ?_
    refine AllReadyH.cons (o := { dst := some 14, op := Go.Op.call { callee := Go.Callee.value (Go.Operand.func 56), args := #[Go.Operand.tmp 11, Go.Operand.tmp 13], argTypes := #[25, 25] }, type := 49, pos := "exact.go:4359", after := #[{ on := 1, ground := Go.Ground.data }, { on := 3, ground := Go.Ground.data }, { on := 3, ground := Go.Ground.chain }], guard := none }) rfl (fun Kn hK => ?_) AllReadyH.nil
    first | go_at_call 56 | (go_simp; go_at_call 56)
    (with_reducible refine Calls.mono (S1.out _) ?_)
    rintro e V3 ⟨rfl, hb⟩
    try dsimp only
    try simp only [Act.put, List.setIfInBounds_toArray, List.set_cons_zero, List.set_cons_succ]
    replace bX := bX.on hb
    replace bC := bC.on hb
    replace HW := Lib.hid (bel_end HW.out hb)
    clear hb
    refine hK.out _ _ (HSp.out _ bX bC) (fun _ => ?_)
    clear hK Kn
    have hS := HSp.out _ bX bC
    refine wpAnyH_take (i := 5) (oi := { dst := some 9, op := Go.Op.move (Go.Operand.tmp 14), type := 49, pos := "exact.go:4359", after := #[{ on := 4, ground := Go.Ground.data }], guard := none }) (v := ?_) rfl (by kernel_rfl) (by kernel_rfl) (by kernel_rfl) (fun _ _ _ h => h) (Or.inl ⟨by rfl, ?_⟩) hS ?_
    rotate_left
    · (intro w hSw; have hSw := (HSd.out w).1 hSw; go_split_ands; go_simp) <;> with_reducible rfl
    clear hS
    try simp only [Act.put, List.setIfInBounds_toArray, List.set_cons_zero, List.set_cons_succ]
    have hS := HSp.out _ bX bC
    refine wpAnyH_take (i := 6) (oi := { dst := some 15, op := Go.Op.extract (Go.Operand.tmp 9) 0, type := 4, pos := "exact.go:4359", after := #[{ on := 5, ground := Go.Ground.data }], guard := none }) (v := ?_) rfl (by kernel_rfl) (by kernel_rfl) (by kernel_rfl) (fun _ _ _ h => h) (Or.inl ⟨by rfl, ?_⟩) hS ?_
    rotate_left
    · (intro w hSw; have hSw := (HSd.out w).1 hSw; go_split_ands; go_simp) <;> with_reducible rfl
    clear hS
    try simp only [Act.put, List.setIfInBounds_toArray, List.set_cons_zero, List.set_cons_succ]
    have hS := HSp.out _ bX bC
    refine wpAnyH_take (i := 7) (oi := { dst := some 16, op := Go.Op.extract (Go.Operand.tmp 9) 1, type := 2, pos := "exact.go:4359", after := #[{ on := 5, ground := Go.Ground.data }, { on := 8, ground := Go.Ground.gcOnly Go.Departure.lateStores }], guard := none }) (v := ?_) rfl (by kernel_rfl) (by kernel_rfl) (by kernel_rfl) (fun _ _ _ h => h) (Or.inl ⟨by rfl, ?_⟩) hS ?_
    rotate_left
    · (intro w hSw; have hSw := (HSd.out w).1 hSw; go_split_ands; go_simp) <;> with_reducible rfl
    clear hS
    try simp only [Act.put, List.setIfInBounds_toArray, List.set_cons_zero, List.set_cons_succ]
    have hS := HSp.out _ bX bC
    refine wpAnyH_take (i := 8) (oi := { dst := some 5, op := Go.Op.assign (Go.Operand.tmp 15), type := 4, pos := "exact.go:4359", after := #[{ on := 6, ground := Go.Ground.data }, { on := 4, ground := Go.Ground.chain }, { on := 0, ground := Go.Ground.phase }, { on := 1, ground := Go.Ground.phase }, { on := 2, ground := Go.Ground.phase }, { on := 3, ground := Go.Ground.phase }, { on := 4, ground := Go.Ground.phase }, { on := 5, ground := Go.Ground.phase }, { on := 6, ground := Go.Ground.phase }, { on := 7, ground := Go.Ground.textOnly Go.Departure.lateStores }], guard := none }) (v := ?_) rfl (by kernel_rfl) (by kernel_rfl) (by kernel_rfl) (fun _ _ _ h => h) (Or.inl ⟨by rfl, ?_⟩) hS ?_
    rotate_left
    · (intro w hSw; have hSw := (HSd.out w).1 hSw; go_split_ands; go_simp) <;> with_reducible rfl
    clear hS
    try simp only [Act.put, List.setIfInBounds_toArray, List.set_cons_zero, List.set_cons_succ]
    have hS := HSp.out _ bX bC
    refine wpAnyH_take (i := 9) (oi := { dst := some 6, op := Go.Op.assign (Go.Operand.tmp 16), type := 2, pos := "exact.go:4359", after := #[{ on := 7, ground := Go.Ground.data }, { on := 8, ground := Go.Ground.chain }, { on := 0, ground := Go.Ground.phase }, { on := 1, ground := Go.Ground.phase }, { on := 2, ground := Go.Ground.phase }, { on := 3, ground := Go.Ground.phase }, { on := 4, ground := Go.Ground.phase }, { on := 5, ground := Go.Ground.phase }, { on := 6, ground := Go.Ground.phase }, { on := 7, ground := Go.Ground.phase }, { on := 8, ground := Go.Ground.phase }], guard := none }) (v := ?_) rfl (by kernel_rfl) (by kernel_rfl) (by kernel_rfl) (fun _ _ _ h => h) (Or.inl ⟨by rfl, ?_⟩) hS ?_
    rotate_left
    · (intro w hSw; have hSw := (HSd.out w).1 hSw; go_split_ands; go_simp) <;> with_reducible rfl
    clear hS
    try simp only [Act.put, List.setIfInBounds_toArray, List.set_cons_zero, List.set_cons_succ]
    refine wpAnyH_done (by kernel_rfl) ?_ _
    go_wp2_with fail
    go_meet
    exact ⟨rfl, rfl, HW.out⟩
  case rest =>
    obtain ⟨rfl, rfl, hb⟩ := hcut
    replace bX := bX.on hb
    replace bC := bC.on hb
    replace HB := Lib.hid (bel_end HB.out hb)
    clear hb
    obtain ⟨WCa, hWC⟩ : ∃ W, W = wc := ⟨_, rfl⟩
    skip
    have bX_0 := bX.cell 0 rfl
    have bX_1 := bX.cell 1 rfl
    have bX_2 := bX.cell 2 rfl
    have bX_3 := bX.cell 3 rfl
    have bX_4 := bX.cell 4 rfl
    have bX_l := bX.lt
    have bC_0 := bC.cell 0 rfl
    have bC_1 := bC.cell 1 rfl
    have bC_2 := bC.cell 2 rfl
    have bC_3 := bC.cell 3 rfl
    have bC_4 := bC.cell 4 rfl
    have bC_l := bC.lt
    go_upto_region 2 with fail
    clear bX_0 bX_1 bX_2 bX_3 bX_4 bX_l bC_0 bC_1 bC_2 bC_3 bC_4 bC_l
    go_cut [7, 8] (fun s7 s8 wx => s7 = .bool (Z) ∧ s8 = .int .i64 (C) ∧ Below wc.heap.size wc wx)
    case first =>
      have HW : Hid (Below wc.heap.size wc wc) := Lib.hid (Below.refl _ _)
      obtain ⟨S, hSd⟩ : ∃ S : World → Prop, ∀ w', S w' ↔ (w'.cell? ⟨w.heap.size, 0, none⟩ = some (.int .i64 x) ∧ w'.cell? ⟨w.heap.size, 1, none⟩ = some (.int .i64 y) ∧ w'.cell? ⟨w.heap.size, 2, none⟩ = some (.int .i64 u) ∧ w'.cell? ⟨w.heap.size, 3, none⟩ = some (.int .i64 v) ∧ w'.cell? ⟨w.heap.size, 4, none⟩ = some (.int .i64 s) ∧ w'.cell? ⟨w.heap.size + 1, 0, none⟩ = some (.int .i64 p) ∧ w'.cell? ⟨w.heap.size + 1, 1, none⟩ = some (.int .i64 q) ∧ w'.cell? ⟨w.heap.size + 1, 2, none⟩ = some (.int .i64 a) ∧ w'.cell? ⟨w.heap.size + 1, 3, none⟩ = some (.int .i64 b) ∧ w'.cell? ⟨w.heap.size + 1, 4, none⟩ = some (.int .i64 t)) := ⟨_, fun _ => Iff.rfl⟩
      have HSp : Hid (∀ w' : World, Bk w' (w.heap.size) #[.int .i64 x, .int .i64 y, .int .i64 u, .int .i64 v, .int .i64 s] 53 → Bk w' (w.heap.size + 1) #[.int .i64 p, .int .i64 q, .int .i64 a, .int .i64 b, .int .i64 t] 53 → S w') := Lib.hid (fun w' bX bC => (hSd w').2 ⟨bX.cell 0 rfl, bX.cell 1 rfl, bX.cell 2 rfl, bX.cell 3 rfl, bX.cell 4 rfl, bC.cell 0 rfl, bC.cell 1 rfl, bC.cell 2 rfl, bC.cell 3 rfl, bC.cell 4 rfl⟩)
      have HSd := Lib.hid hSd
      clear hSd
      refine wp_region_held_drew (S := S) (by kernel_rfl) ?_ (fun hH => ?_)
      · exact (HSp.out _ bX bC : S (World.drew wc))
      clear hH
      generalize hX : World.drew wc = V0
      replace bX : Bk V0 (w.heap.size) #[.int .i64 x, .int .i64 y, .int .i64 u, .int .i64 v, .int .i64 s] 53 := by rw [← hX]; exact bX
      replace bC : Bk V0 (w.heap.size + 1) #[.int .i64 p, .int .i64 q, .int .i64 a, .int .i64 b, .int .i64 t] 53 := by rw [← hX]; exact bC
      have hb : Below wc.heap.size wc V0 := by rw [← hX]; exact (Below.refl _ _).drew
      clear hX
      replace HW := Lib.hid (bel_end HW.out hb)
      clear hb
      have hS := HSp.out _ bX bC
      refine wpAnyH_take (i := 0) (oi := { dst := some 18, op := Go.Op.load 53 (Go.Operand.tmp 2), type := 53, pos := "exact.go:4360", after := #[], guard := none }) (v := ?_) rfl (by kernel_rfl) (by kernel_rfl) (by kernel_rfl) (fun _ _ _ h => h) (Or.inl ⟨by rfl, ?_⟩) hS ?_
      rotate_left
      · (intro w hSw; have hSw := (HSd.out w).1 hSw; go_split_ands; go_simp) <;> with_reducible rfl
      clear hS
      try simp only [Act.put, List.setIfInBounds_toArray, List.set_cons_zero, List.set_cons_succ]
      have hS := HSp.out _ bX bC
      refine wpAnyH_take (i := 2) (oi := { dst := some 20, op := Go.Op.load 53 (Go.Operand.tmp 3), type := 53, pos := "exact.go:4360", after := #[], guard := none }) (v := ?_) rfl (by kernel_rfl) (by kernel_rfl) (by kernel_rfl) (fun _ _ _ h => h) (Or.inl ⟨by rfl, ?_⟩) hS ?_
      rotate_left
      · (intro w hSw; have hSw := (HSd.out w).1 hSw; go_split_ands; go_simp) <;> with_reducible rfl
      clear hS
      try simp only [Act.put, List.setIfInBounds_toArray, List.set_cons_zero, List.set_cons_succ]
      refine wpAnyH_ready (rs := [1]) (by kernel_rfl) (by simp) ?_
      refine AllReadyH.cons (o := { dst := some 19, op := Go.Op.call { callee := Go.Callee.value (Go.Operand.func 37), args := #[Go.Operand.tmp 18], argTypes := #[53] }, type := 25, pos := "exact.go:4360", after := #[{ on := 0, ground := Go.Ground.data }], guard := none }) rfl (fun Kn hK => ?_) AllReadyH.nil
      first | go_at_call 37 | (go_simp; go_at_call 37)
      (with_reducible refine Calls.mono (tmo_any _ _ _ _ _ _) ?_)
      rintro e V1 ⟨rfl, hb⟩
      try dsimp only
      try simp only [Act.put, List.setIfInBounds_toArray, List.set_cons_zero, List.set_cons_succ]
      replace bX := bX.on hb
      replace bC := bC.on hb
      replace HW := Lib.hid (bel_end HW.out hb)
      clear hb
      refine hK.out _ _ (HSp.out _ bX bC) (fun _ => ?_)
      clear hK Kn
      refine wpAnyH_ready (rs := [3]) (by kernel_rfl) (by simp) ?_
      refine AllReadyH.cons (o := { dst := some 21, op := Go.Op.call { callee := Go.Callee.value (Go.Operand.func 37), args := #[Go.Operand.tmp 20], argTypes := #[53] }, type := 25, pos := "exact.go:4360", after := #[{ on := 2, ground := Go.Ground.data }, { on := 1, ground := Go.Ground.chain }], guard := none }) rfl (fun Kn hK => ?_) AllReadyH.nil
      first | go_at_call 37 | (go_simp; go_at_call 37)
      (with_reducible refine Calls.mono (tmo_any _ _ _ _ _ _) ?_)
      rintro e V2 ⟨rfl, hb⟩
      try dsimp only
      try simp only [Act.put, List.setIfInBounds_toArray, List.set_cons_zero, List.set_cons_succ]
      replace bX := bX.on hb
      replace bC := bC.on hb
      replace HW := Lib.hid (bel_end HW.out hb)
      clear hb
      refine hK.out _ _ (HSp.out _ bX bC) (fun _ => ?_)
      clear hK Kn
      refine wpAnyH_ready (rs := [4]) (by kernel_rfl) (by simp) ?_
      refine AllReadyH.cons (o := { dst := some 22, op := Go.Op.call { callee := Go.Callee.value (Go.Operand.func 57), args := #[Go.Operand.tmp 19, Go.Operand.tmp 21], argTypes := #[25, 25] }, type := 49, pos := "exact.go:4360", after := #[{ on := 1, ground := Go.Ground.data }, { on := 3, ground := Go.Ground.data }, { on := 3, ground := Go.Ground.chain }], guard := none }) rfl (fun Kn hK => ?_) AllReadyH.nil
      first | go_at_call 57 | (go_simp; go_at_call 57)
      (with_reducible refine Calls.mono (S2.out _) ?_)
      rintro e V3 ⟨rfl, hb⟩
      try dsimp only
      try simp only [Act.put, List.setIfInBounds_toArray, List.set_cons_zero, List.set_cons_succ]
      replace bX := bX.on hb
      replace bC := bC.on hb
      replace HW := Lib.hid (bel_end HW.out hb)
      clear hb
      refine hK.out _ _ (HSp.out _ bX bC) (fun _ => ?_)
      clear hK Kn
      have hS := HSp.out _ bX bC
      refine wpAnyH_take (i := 5) (oi := { dst := some 17, op := Go.Op.move (Go.Operand.tmp 22), type := 49, pos := "exact.go:4360", after := #[{ on := 4, ground := Go.Ground.data }], guard := none }) (v := ?_) rfl (by kernel_rfl) (by kernel_rfl) (by kernel_rfl) (fun _ _ _ h => h) (Or.inl ⟨by rfl, ?_⟩) hS ?_
      rotate_left
      · (intro w hSw; have hSw := (HSd.out w).1 hSw; go_split_ands; go_simp) <;> with_reducible rfl
      clear hS
      try simp only [Act.put, List.setIfInBounds_toArray, List.set_cons_zero, List.set_cons_succ]
      have hS := HSp.out _ bX bC
      refine wpAnyH_take (i := 6) (oi := { dst := some 23, op := Go.Op.extract (Go.Operand.tmp 17) 0, type := 4, pos := "exact.go:4360", after := #[{ on := 5, ground := Go.Ground.data }], guard := none }) (v := ?_) rfl (by kernel_rfl) (by kernel_rfl) (by kernel_rfl) (fun _ _ _ h => h) (Or.inl ⟨by rfl, ?_⟩) hS ?_
      rotate_left
      · (intro w hSw; have hSw := (HSd.out w).1 hSw; go_split_ands; go_simp) <;> with_reducible rfl
      clear hS
      try simp only [Act.put, List.setIfInBounds_toArray, List.set_cons_zero, List.set_cons_succ]
      have hS := HSp.out _ bX bC
      refine wpAnyH_take (i := 7) (oi := { dst := some 24, op := Go.Op.extract (Go.Operand.tmp 17) 1, type := 2, pos := "exact.go:4360", after := #[{ on := 5, ground := Go.Ground.data }, { on := 8, ground := Go.Ground.gcOnly Go.Departure.lateStores }], guard := none }) (v := ?_) rfl (by kernel_rfl) (by kernel_rfl) (by kernel_rfl) (fun _ _ _ h => h) (Or.inl ⟨by rfl, ?_⟩) hS ?_
      rotate_left
      · (intro w hSw; have hSw := (HSd.out w).1 hSw; go_split_ands; go_simp) <;> with_reducible rfl
      clear hS
      try simp only [Act.put, List.setIfInBounds_toArray, List.set_cons_zero, List.set_cons_succ]
      have hS := HSp.out _ bX bC
      refine wpAnyH_take (i := 8) (oi := { dst := some 7, op := Go.Op.assign (Go.Operand.tmp 23), type := 4, pos := "exact.go:4360", after := #[{ on := 6, ground := Go.Ground.data }, { on := 4, ground := Go.Ground.chain }, { on := 0, ground := Go.Ground.phase }, { on := 1, ground := Go.Ground.phase }, { on := 2, ground := Go.Ground.phase }, { on := 3, ground := Go.Ground.phase }, { on := 4, ground := Go.Ground.phase }, { on := 5, ground := Go.Ground.phase }, { on := 6, ground := Go.Ground.phase }, { on := 7, ground := Go.Ground.textOnly Go.Departure.lateStores }], guard := none }) (v := ?_) rfl (by kernel_rfl) (by kernel_rfl) (by kernel_rfl) (fun _ _ _ h => h) (Or.inl ⟨by rfl, ?_⟩) hS ?_
      rotate_left
      · (intro w hSw; have hSw := (HSd.out w).1 hSw; go_split_ands; go_simp) <;> with_reducible rfl
      clear hS
      try simp only [Act.put, List.setIfInBounds_toArray, List.set_cons_zero, List.set_cons_succ]
      have hS := HSp.out _ bX bC
      refine wpAnyH_take (i := 9) (oi := { dst := some 8, op := Go.Op.assign (Go.Operand.tmp 24), type := 2, pos := "exact.go:4360", after := #[{ on := 7, ground := Go.Ground.data }, { on := 8, ground := Go.Ground.chain }, { on := 0, ground := Go.Ground.phase }, { on := 1, ground := Go.Ground.phase }, { on := 2, ground := Go.Ground.phase }, { on := 3, ground := Go.Ground.phase }, { on := 4, ground := Go.Ground.phase }, { on := 5, ground := Go.Ground.phase }, { on := 6, ground := Go.Ground.phase }, { on := 7, ground := Go.Ground.phase }, { on := 8, ground := Go.Ground.phase }], guard := none }) (v := ?_) rfl (by kernel_rfl) (by kernel_rfl) (by kernel_rfl) (fun _ _ _ h => h) (Or.inl ⟨by rfl, ?_⟩) hS ?_
      rotate_left
      · (intro w hSw; have hSw := (HSd.out w).1 hSw; go_split_ands; go_simp) <;> with_reducible rfl
      clear hS
      try simp only [Act.put, List.setIfInBounds_toArray, List.set_cons_zero, List.set_cons_succ]
      refine wpAnyH_done (by kernel_rfl) ?_ _
      go_wp2_with fail
      go_meet
      exact ⟨rfl, rfl, HW.out⟩
    case rest =>
      obtain ⟨rfl, rfl, hb⟩ := hcut
      replace bX := bX.on hb
      replace bC := bC.on hb
      replace HB := Lib.hid (bel_end HB.out hb)
      clear hb
      obtain ⟨WCb, hWC⟩ : ∃ W, W = wc := ⟨_, rfl⟩
      skip
      have bX_0 := bX.cell 0 rfl
      have bX_1 := bX.cell 1 rfl
      have bX_2 := bX.cell 2 rfl
      have bX_3 := bX.cell 3 rfl
      have bX_4 := bX.cell 4 rfl
      have bX_l := bX.lt
      have bC_0 := bC.cell 0 rfl
      have bC_1 := bC.cell 1 rfl
      have bC_2 := bC.cell 2 rfl
      have bC_3 := bC.cell 3 rfl
      have bC_4 := bC.cell 4 rfl
      have bC_l := bC.lt
      go_wp2_with fail
      clear bX_0 bX_1 bX_2 bX_3 bX_4 bX_l bC_0 bC_1 bC_2 bC_3 bC_4 bC_l
      go_ret
      exact ⟨rfl, HB.out⟩
end Go.Proofs.Ytdkiikmmlfdlcaa
