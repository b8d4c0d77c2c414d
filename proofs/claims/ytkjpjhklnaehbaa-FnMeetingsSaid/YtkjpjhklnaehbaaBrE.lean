/- Contracts of the program's ClosestTime, ClosestSquare, BearingDrift, DoMeet, PositionAt. -/
import Derived.Test.YtkjpjhklnaehbaaBrD
import Derived.Test.YtkjpjhklnaehbaaRlm
namespace Go.Proofs.Ytkjpjhklnaehbaa
open Go.ChangeShapes Go.WideShapes Go.ChangeAt Go.RowKit Go.Shelf Num
set_option linter.unusedVariables false
set_option linter.unusedSimpArgs false

set_option maxRecDepth 100000 in
set_option maxHeartbeats 8000000 in
theorem ict_no (w : World) (a1 a2 a3 a4 b1 b2 b3 b4 : Int) (hok : okT a1 a2 a3 a4 b1 b2 b3 b4 = false) :
    Calls Try.prog 31 #[.agg #[.int .i64 a1, .int .i64 a2, .int .i64 a3, .int .i64 a4], .agg #[.int .i64 b1, .int .i64 b2, .int .i64 b3, .int .i64 b4]] w fun e w' => e = .returned (.tuple #[.agg #[.int .i64 (ctR a1 a2 a3 a4 b1 b2 b3 b4).1, .int .i64 (ctR a1 a2 a3 a4 b1 b2 b3 b4).2.1], .int .i64 (ctR a1 a2 a3 a4 b1 b2 b3 b4).2.2]) ∧ Below w.heap.size w w' := by
  have HT : Hid (ctR a1 a2 a3 a4 b1 b2 b3 b4 = (0, 0, 1)) := Lib.hid (by unfold ctR; rw [hok]; rfl)
  have KS : Hid (∀ W : World, Calls Try.prog 68 #[.agg #[.int .i64 a1, .int .i64 a2, .int .i64 a3, .int .i64 a4], .agg #[.int .i64 b1, .int .i64 b2, .int .i64 b3, .int .i64 b4]] W fun e w' => e = .returned (.tuple #[.agg #[.int .i64 0, .int .i64 0, .int .i64 0, .int .i64 0], .int .i64 1]) ∧ Below W.heap.size W w') := Lib.hid (fun W => ise_no W a1 a2 a3 a4 b1 b2 b3 b4 hok)
  clear hok
  go_enter Try.func31, Try.ntmps31
  go_wp2_with fail
  generalize hW : World.alloc _ _ = W
  have bA : Bk W (w.heap.size) #[.int .i64 a1, .int .i64 a2, .int .i64 a3, .int .i64 a4] 44 := by rw [← hW]; repeat (first | (refine Bk.new' ?_; (simp; done)) | refine Bk.alloc ?_ _)
  have bB : Bk W (w.heap.size + 1) #[.int .i64 b1, .int .i64 b2, .int .i64 b3, .int .i64 b4] 44 := by rw [← hW]; repeat (first | (refine Bk.new' ?_; (simp; done)) | refine Bk.alloc ?_ _)
  have bR : Bk W (w.heap.size + 1 + 1) #[.int .i64 0, .int .i64 0] 34 := by rw [← hW]; repeat (first | (refine Bk.new' ?_; (simp; done)) | refine Bk.alloc ?_ _)
  have HB : Hid (Below w.heap.size w W) := Lib.hid (by rw [← hW]; exact (by repeat (first | exact Below.refl _ _ | (refine Below.alloc ?_ (by simp <;> omega) _) | (refine Below.setCell ?_ (by simp <;> omega) _) | (refine Below.drew ?_) | (refine bel_drewN ?_ _))))
  clear hW
  refine (KS.out _).mono ?_
  rintro e w1 ⟨rfl, hb⟩
  replace bA := bA.on hb
  replace bB := bB.on hb
  replace bR := bR.on hb
  replace HB := Lib.hid (bel_end HB.out hb)
  clear hb
  have bA_0 := bA.cell 0 rfl
  have bA_1 := bA.cell 1 rfl
  have bA_2 := bA.cell 2 rfl
  have bA_3 := bA.cell 3 rfl
  have bA_l := bA.lt
  have bB_0 := bB.cell 0 rfl
  have bB_1 := bB.cell 1 rfl
  have bB_2 := bB.cell 2 rfl
  have bB_3 := bB.cell 3 rfl
  have bB_l := bB.lt
  have bR_0 := bR.cell 0 rfl
  have bR_1 := bR.cell 1 rfl
  have bR_l := bR.lt
  go_upto_region 2 with fail
  clear bA_0 bA_1 bA_2 bA_3 bA_l bB_0 bB_1 bB_2 bB_3 bB_l bR_0 bR_1 bR_l
  generalize hW : World.alloc _ _ = WN
  obtain ⟨gN, hg⟩ : ∃ g, g = w1.heap.size := ⟨_, rfl⟩
  have bN : Bk WN gN #[.int .i64 0, .int .i64 0, .int .i64 0, .int .i64 0] 44 := by rw [← hW]; exact Bk.new' hg
  have hb : Below w1.heap.size w1 WN := by rw [← hW]; exact (Below.refl _ _).alloc (Nat.le_refl _) _
  have ne_bA : gN ≠ w.heap.size := by have := bA.lt; omega
  have ne_bB : gN ≠ w.heap.size + 1 := by have := bB.lt; omega
  have ne_bR : gN ≠ w.heap.size + 1 + 1 := by have := bR.lt; omega
  have leN : w.heap.size ≤ gN := by rw [hg]; exact HB.out.size
  try rw [← hg]
  clear hW hg
  replace bA := bA.on hb
  replace bB := bB.on hb
  replace bR := bR.on hb
  replace HB := Lib.hid (bel_end HB.out hb)
  clear hb
  have bA_0 := bA.cell 0 rfl
  have bA_1 := bA.cell 1 rfl
  have bA_2 := bA.cell 2 rfl
  have bA_3 := bA.cell 3 rfl
  have bA_l := bA.lt
  have bB_0 := bB.cell 0 rfl
  have bB_1 := bB.cell 1 rfl
  have bB_2 := bB.cell 2 rfl
  have bB_3 := bB.cell 3 rfl
  have bB_l := bB.lt
  have bR_0 := bR.cell 0 rfl
  have bR_1 := bR.cell 1 rfl
  have bR_l := bR.lt
  have bN_0 := bN.cell 0 rfl
  have bN_1 := bN.cell 1 rfl
  have bN_2 := bN.cell 2 rfl
  have bN_3 := bN.cell 3 rfl
  have bN_l := bN.lt
  have bR_f0 := bR.frozen 0
  have bR_f1 := bR.frozen 1
  go_wp2
  exact bodyPost_ret (v := .tuple #[.agg #[.int .i64 0, .int .i64 0], .int .i64 1]) (by simp [results, Try.results31, go_sem, bR_0, bR_f0, bR_1, bR_f1, bR_l]) rfl ⟨res3r HT.out, (by repeat (first | exact HB.out | (refine Below.setCell ?_ (by simp <;> omega) _) | (refine Below.alloc ?_ (by simp <;> omega) _) | (refine Below.drew ?_)))⟩

set_option maxRecDepth 100000 in
set_option maxHeartbeats 8000000 in
theorem ict_ok (w : World) (a1 a2 a3 a4 b1 b2 b3 b4 : Int) (hok : okT a1 a2 a3 a4 b1 b2 b3 b4 = true) :
    Calls Try.prog 31 #[.agg #[.int .i64 a1, .int .i64 a2, .int .i64 a3, .int .i64 a4], .agg #[.int .i64 b1, .int .i64 b2, .int .i64 b3, .int .i64 b4]] w fun e w' => e = .returned (.tuple #[.agg #[.int .i64 (ctR a1 a2 a3 a4 b1 b2 b3 b4).1, .int .i64 (ctR a1 a2 a3 a4 b1 b2 b3 b4).2.1], .int .i64 (ctR a1 a2 a3 a4 b1 b2 b3 b4).2.2]) ∧ Below w.heap.size w w' := by
  have hs := (okT_t hok).2.2
  have KS : Hid (∀ W : World, Calls Try.prog 68 #[.agg #[.int .i64 a1, .int .i64 a2, .int .i64 a3, .int .i64 a4], .agg #[.int .i64 b1, .int .i64 b2, .int .i64 b3, .int .i64 b4]] W fun e w' => e = .returned (.tuple #[.agg #[.int .i64 (b1 - a1), .int .i64 (b2 - a2), .int .i64 (b3 - a3), .int .i64 (b4 - a4)], .int .i64 0]) ∧ Below W.heap.size W w') := Lib.hid (fun W => ise_ok W a1 a2 a3 a4 b1 b2 b3 b4 hok)
  have HT0 : ctR a1 a2 a3 a4 b1 b2 b3 b4 = ctT (b1 - a1) (b2 - a2) (b3 - a3) (b4 - a4) := by unfold ctR; rw [hok]; rfl
  obtain ⟨X, hX⟩ : ∃ u, b1 - a1 = u := ⟨_, rfl⟩
  obtain ⟨Y, hY⟩ : ∃ u, b2 - a2 = u := ⟨_, rfl⟩
  obtain ⟨M, hM⟩ : ∃ u, b3 - a3 = u := ⟨_, rfl⟩
  obtain ⟨N, hN⟩ : ∃ u, b4 - a4 = u := ⟨_, rfl⟩
  rw [hX, hY, hM, hN] at KS hs
  rw [hX, hY, hM, hN] at HT0
  clear hX hY hM hN hok
  have d := hs.dt
  have p := hs.pr
  have q := hs.ss
  have K1 : Hid (∀ W : World, Calls Try.prog 69 #[.agg #[.int .i64 X, .int .i64 Y], .agg #[.int .i64 M, .int .i64 N]] W fun e w' => e = .returned (.int .i64 (dt2 X Y M N)) ∧ Below W.heap.size W w') := Lib.hid (fun W => isc2_any W X Y M N (by omega) (by omega) (by omega) (by omega))
  have K2 : Hid (∀ W : World, Calls Try.prog 69 #[.agg #[.int .i64 M, .int .i64 N], .agg #[.int .i64 M, .int .i64 N]] W fun e w' => e = .returned (.int .i64 (dt2 M N M N)) ∧ Below W.heap.size W w') := Lib.hid (fun W => isc2_any W M N M N (by omega) (by omega) (by omega) (by omega))
  have dp : ¬ (M = 0 ∧ N = 0) → ¬ dt2 M N M N = 0 := fun h e => h (dt2_z e)
  have HT1 : ¬ (M = 0 ∧ N = 0) → ctR a1 a2 a3 a4 b1 b2 b3 b4 = rlT (if dt2 X Y M N < 0 then -dt2 X Y M N else 0) (dt2 M N M N) := fun h => by rw [HT0]; unfold ctT; rw [if_neg h]
  obtain ⟨D, hD⟩ : ∃ u, dt2 X Y M N = u := ⟨_, rfl⟩
  obtain ⟨F, hF⟩ : ∃ u, dt2 M N M N = u := ⟨_, rfl⟩
  rw [hD] at K1 HT1 d
  rw [hF] at K2 HT1 d dp
  obtain ⟨G, hG⟩ : ∃ u, (if D < 0 then -D else 0) = u := ⟨_, rfl⟩
  rw [hG] at HT1
  have g1 : 0 ≤ G ∧ G ≤ 800000000 := by rw [← hG]; split <;> omega
  have eD : IntKind.wrap .i64 (-D) = -D := IntWalk.i64_in _ (by omega)
  have HG := Lib.hid hG
  clear hG
  obtain ⟨⟨u, v, e⟩, hT⟩ : ∃ T, rlT G F = T := ⟨_, rfl⟩
  rw [hT] at HT1
  have KL : Hid (¬ (M = 0 ∧ N = 0) → ∀ W : World, Calls Try.prog 61 #[.int .i64 G, .int .i64 F] W fun e' w' => e' = .returned (.tuple #[.agg #[.int .i64 u, .int .i64 v], .int .i64 e]) ∧ Below W.heap.size W w') := Lib.hid (fun h W => irl_is hT (by omega) (by omega) (by omega) (by omega) (dp h) W)
  replace HT1 := Lib.hid HT1
  replace HT0 := Lib.hid HT0
  clear d p q hs hD hF hT dp g1
  go_enter Try.func31, Try.ntmps31
  go_wp2_with fail
  generalize hW : World.alloc _ _ = W
  have bA : Bk W (w.heap.size) #[.int .i64 a1, .int .i64 a2, .int .i64 a3, .int .i64 a4] 44 := by rw [← hW]; repeat (first | (refine Bk.new' ?_; (simp; done)) | refine Bk.alloc ?_ _)
  have bB : Bk W (w.heap.size + 1) #[.int .i64 b1, .int .i64 b2, .int .i64 b3, .int .i64 b4] 44 := by rw [← hW]; repeat (first | (refine Bk.new' ?_; (simp; done)) | refine Bk.alloc ?_ _)
  have bR : Bk W (w.heap.size + 1 + 1) #[.int .i64 0, .int .i64 0] 34 := by rw [← hW]; repeat (first | (refine Bk.new' ?_; (simp; done)) | refine Bk.alloc ?_ _)
  have HB : Hid (Below w.heap.size w W) := Lib.hid (by rw [← hW]; exact (by repeat (first | exact Below.refl _ _ | (refine Below.alloc ?_ (by simp <;> omega) _) | (refine Below.setCell ?_ (by simp <;> omega) _) | (refine Below.drew ?_) | (refine bel_drewN ?_ _))))
  clear hW
  refine (KS.out _).mono ?_
  rintro e w1 ⟨rfl, hb⟩
  replace bA := bA.on hb
  replace bB := bB.on hb
  replace bR := bR.on hb
  replace HB := Lib.hid (bel_end HB.out hb)
  clear hb
  have bA_0 := bA.cell 0 rfl
  have bA_1 := bA.cell 1 rfl
  have bA_2 := bA.cell 2 rfl
  have bA_3 := bA.cell 3 rfl
  have bA_l := bA.lt
  have bB_0 := bB.cell 0 rfl
  have bB_1 := bB.cell 1 rfl
  have bB_2 := bB.cell 2 rfl
  have bB_3 := bB.cell 3 rfl
  have bB_l := bB.lt
  have bR_0 := bR.cell 0 rfl
  have bR_1 := bR.cell 1 rfl
  have bR_l := bR.lt
  go_upto_region 2 with fail
  clear bA_0 bA_1 bA_2 bA_3 bA_l bB_0 bB_1 bB_2 bB_3 bB_l bR_0 bR_1 bR_l
  generalize hW : World.alloc _ _ = WN
  obtain ⟨gN, hg⟩ : ∃ g, g = w1.heap.size := ⟨_, rfl⟩
  have bN : Bk WN gN #[.int .i64 X, .int .i64 Y, .int .i64 M, .int .i64 N] 44 := by rw [← hW]; exact Bk.new' hg
  have hb : Below w1.heap.size w1 WN := by rw [← hW]; exact (Below.refl _ _).alloc (Nat.le_refl _) _
  have ne_bA : gN ≠ w.heap.size := by have := bA.lt; omega
  have ne_bB : gN ≠ w.heap.size + 1 := by have := bB.lt; omega
  have ne_bR : gN ≠ w.heap.size + 1 + 1 := by have := bR.lt; omega
  have leN : w.heap.size ≤ gN := by rw [hg]; exact HB.out.size
  try rw [← hg]
  clear hW hg
  replace bA := bA.on hb
  replace bB := bB.on hb
  replace bR := bR.on hb
  replace HB := Lib.hid (bel_end HB.out hb)
  clear hb
  clear bA bB ne_bA ne_bB
  by_cases hx : M = 0
  case pos =>
    subst hx
    by_cases hy : N = 0
    case pos =>
      subst hy
      have HT : Hid (ctR a1 a2 a3 a4 b1 b2 b3 b4 = (0, 0, 5)) := Lib.hid (by rw [HT0.out]; unfold ctT; exact if_pos ⟨rfl, rfl⟩)
      have bR_0 := bR.cell 0 rfl
      have bR_1 := bR.cell 1 rfl
      have bR_l := bR.lt
      have bN_0 := bN.cell 0 rfl
      have bN_1 := bN.cell 1 rfl
      have bN_2 := bN.cell 2 rfl
      have bN_3 := bN.cell 3 rfl
      have bN_l := bN.lt
      have bR_f0 := bR.frozen 0
      have bR_f1 := bR.frozen 1
      go_wp2
      exact bodyPost_ret (v := .tuple #[.agg #[.int .i64 0, .int .i64 0], .int .i64 5]) (by simp [results, Try.results31, go_sem, bR_0, bR_f0, bR_1, bR_f1, bR_l]) rfl ⟨res3r HT.out, (by repeat (first | exact HB.out | (refine Below.setCell ?_ (by simp <;> omega) _) | (refine Below.alloc ?_ (by simp <;> omega) _) | (refine Below.drew ?_)))⟩
    case neg =>
      have hy2 : (N == 0) = false := by simpa using hy
      have hz : ¬ ((0 : Int) = 0 ∧ N = 0) := fun e => hy e.2
      clear hy
      have HT := Lib.hid (HT1.out hz)
      have KLL := Lib.hid (KL.out hz)
      clear HT1 KL hz
      have bR_0 := bR.cell 0 rfl
      have bR_1 := bR.cell 1 rfl
      have bR_l := bR.lt
      have bN_0 := bN.cell 0 rfl
      have bN_1 := bN.cell 1 rfl
      have bN_2 := bN.cell 2 rfl
      have bN_3 := bN.cell 3 rfl
      have bN_l := bN.lt
      go_wp2_with fail
      clear bR_0 bR_1 bR_l bN_0 bN_1 bN_2 bN_3 bN_l
      refine (K1.out _).mono ?_
      rintro e w2 ⟨rfl, hb⟩
      replace bR := bR.on hb
      replace bN := bN.on hb
      replace HB := Lib.hid (bel_end HB.out hb)
      clear hb
      have bR_0 := bR.cell 0 rfl
      have bR_1 := bR.cell 1 rfl
      have bR_l := bR.lt
      have bN_0 := bN.cell 0 rfl
      have bN_1 := bN.cell 1 rfl
      have bN_2 := bN.cell 2 rfl
      have bN_3 := bN.cell 3 rfl
      have bN_l := bN.lt
      go_upto_region 7 with fail
      clear bR_0 bR_1 bR_l bN_0 bN_1 bN_2 bN_3 bN_l
      rw [HG.out]
      have bR_0 := bR.cell 0 rfl
      have bR_1 := bR.cell 1 rfl
      have bR_l := bR.lt
      have bN_0 := bN.cell 0 rfl
      have bN_1 := bN.cell 1 rfl
      have bN_2 := bN.cell 2 rfl
      have bN_3 := bN.cell 3 rfl
      have bN_l := bN.lt
      go_wp2_with fail
      clear bR_0 bR_1 bR_l bN_0 bN_1 bN_2 bN_3 bN_l
      refine (K2.out _).mono ?_
      rintro e w3 ⟨rfl, hb⟩
      replace bR := bR.on hb
      replace bN := bN.on hb
      replace HB := Lib.hid (bel_end HB.out hb)
      clear hb
      have bR_0 := bR.cell 0 rfl
      have bR_1 := bR.cell 1 rfl
      have bR_l := bR.lt
      have bN_0 := bN.cell 0 rfl
      have bN_1 := bN.cell 1 rfl
      have bN_2 := bN.cell 2 rfl
      have bN_3 := bN.cell 3 rfl
      have bN_l := bN.lt
      go_wp2_with fail
      clear bR_0 bR_1 bR_l bN_0 bN_1 bN_2 bN_3 bN_l
      refine (KLL.out _).mono ?_
      rintro e w4 ⟨rfl, hb⟩
      replace bR := bR.on hb
      replace bN := bN.on hb
      replace HB := Lib.hid (bel_end HB.out hb)
      clear hb
      have bR_0 := bR.cell 0 rfl
      have bR_1 := bR.cell 1 rfl
      have bR_l := bR.lt
      have bN_0 := bN.cell 0 rfl
      have bN_1 := bN.cell 1 rfl
      have bN_2 := bN.cell 2 rfl
      have bN_3 := bN.cell 3 rfl
      have bN_l := bN.lt
      have bR_f0 := bR.frozen 0
      have bR_f1 := bR.frozen 1
      go_wp2
      exact bodyPost_ret (v := .tuple #[.agg #[.int .i64 u, .int .i64 v], .int .i64 e]) (by simp [results, Try.results31, go_sem, bR_0, bR_f0, bR_1, bR_f1, bR_l]) rfl ⟨res3r HT.out, (by repeat (first | exact HB.out | (refine Below.setCell ?_ (by simp <;> omega) _) | (refine Below.alloc ?_ (by simp <;> omega) _) | (refine Below.drew ?_)))⟩
  case neg =>
    have hx2 : (M == 0) = false := by simpa using hx
    have hz : ¬ (M = 0 ∧ N = 0) := fun e => hx e.1
    clear hx
    have HT := Lib.hid (HT1.out hz)
    have KLL := Lib.hid (KL.out hz)
    clear HT1 KL hz
    have bR_0 := bR.cell 0 rfl
    have bR_1 := bR.cell 1 rfl
    have bR_l := bR.lt
    have bN_0 := bN.cell 0 rfl
    have bN_1 := bN.cell 1 rfl
    have bN_2 := bN.cell 2 rfl
    have bN_3 := bN.cell 3 rfl
    have bN_l := bN.lt
    go_wp2_with fail
    clear bR_0 bR_1 bR_l bN_0 bN_1 bN_2 bN_3 bN_l
    refine (K1.out _).mono ?_
    rintro e w2 ⟨rfl, hb⟩
    replace bR := bR.on hb
    replace bN := bN.on hb
    replace HB := Lib.hid (bel_end HB.out hb)
    clear hb
    have bR_0 := bR.cell 0 rfl
    have bR_1 := bR.cell 1 rfl
    have bR_l := bR.lt
    have bN_0 := bN.cell 0 rfl
    have bN_1 := bN.cell 1 rfl
    have bN_2 := bN.cell 2 rfl
    have bN_3 := bN.cell 3 rfl
    have bN_l := bN.lt
    go_upto_region 7 with fail
    clear bR_0 bR_1 bR_l bN_0 bN_1 bN_2 bN_3 bN_l
    rw [HG.out]
    have bR_0 := bR.cell 0 rfl
    have bR_1 := bR.cell 1 rfl
    have bR_l := bR.lt
    have bN_0 := bN.cell 0 rfl
    have bN_1 := bN.cell 1 rfl
    have bN_2 := bN.cell 2 rfl
    have bN_3 := bN.cell 3 rfl
    have bN_l := bN.lt
    go_wp2_with fail
    clear bR_0 bR_1 bR_l bN_0 bN_1 bN_2 bN_3 bN_l
    refine (K2.out _).mono ?_
    rintro e w3 ⟨rfl, hb⟩
    replace bR := bR.on hb
    replace bN := bN.on hb
    replace HB := Lib.hid (bel_end HB.out hb)
    clear hb
    have bR_0 := bR.cell 0 rfl
    have bR_1 := bR.cell 1 rfl
    have bR_l := bR.lt
    have bN_0 := bN.cell 0 rfl
    have bN_1 := bN.cell 1 rfl
    have bN_2 := bN.cell 2 rfl
    have bN_3 := bN.cell 3 rfl
    have bN_l := bN.lt
    go_wp2_with fail
    clear bR_0 bR_1 bR_l bN_0 bN_1 bN_2 bN_3 bN_l
    refine (KLL.out _).mono ?_
    rintro e w4 ⟨rfl, hb⟩
    replace bR := bR.on hb
    replace bN := bN.on hb
    replace HB := Lib.hid (bel_end HB.out hb)
    clear hb
    have bR_0 := bR.cell 0 rfl
    have bR_1 := bR.cell 1 rfl
    have bR_l := bR.lt
    have bN_0 := bN.cell 0 rfl
    have bN_1 := bN.cell 1 rfl
    have bN_2 := bN.cell 2 rfl
    have bN_3 := bN.cell 3 rfl
    have bN_l := bN.lt
    have bR_f0 := bR.frozen 0
    have bR_f1 := bR.frozen 1
    go_wp2
    exact bodyPost_ret (v := .tuple #[.agg #[.int .i64 u, .int .i64 v], .int .i64 e]) (by simp [results, Try.results31, go_sem, bR_0, bR_f0, bR_1, bR_f1, bR_l]) rfl ⟨res3r HT.out, (by repeat (first | exact HB.out | (refine Below.setCell ?_ (by simp <;> omega) _) | (refine Below.alloc ?_ (by simp <;> omega) _) | (refine Below.drew ?_)))⟩

theorem ict_any (w : World) (a1 a2 a3 a4 b1 b2 b3 b4 : Int) : Calls Try.prog 31 #[.agg #[.int .i64 a1, .int .i64 a2, .int .i64 a3, .int .i64 a4], .agg #[.int .i64 b1, .int .i64 b2, .int .i64 b3, .int .i64 b4]] w fun e w' => e = .returned (.tuple #[.agg #[.int .i64 (ctR a1 a2 a3 a4 b1 b2 b3 b4).1, .int .i64 (ctR a1 a2 a3 a4 b1 b2 b3 b4).2.1], .int .i64 (ctR a1 a2 a3 a4 b1 b2 b3 b4).2.2]) ∧ Below w.heap.size w w' := by
  cases hok : okT a1 a2 a3 a4 b1 b2 b3 b4
  · exact ict_no w a1 a2 a3 a4 b1 b2 b3 b4 hok
  · exact ict_ok w a1 a2 a3 a4 b1 b2 b3 b4 hok

set_option maxRecDepth 100000 in
set_option maxHeartbeats 8000000 in
theorem ics_no (w : World) (a1 a2 a3 a4 b1 b2 b3 b4 : Int) (hok : okT a1 a2 a3 a4 b1 b2 b3 b4 = false) :
    Calls Try.prog 33 #[.agg #[.int .i64 a1, .int .i64 a2, .int .i64 a3, .int .i64 a4], .agg #[.int .i64 b1, .int .i64 b2, .int .i64 b3, .int .i64 b4]] w fun e w' => e = .returned (.tuple #[.agg #[.int .i64 (csR a1 a2 a3 a4 b1 b2 b3 b4).1, .int .i64 (csR a1 a2 a3 a4 b1 b2 b3 b4).2.1], .int .i64 (csR a1 a2 a3 a4 b1 b2 b3 b4).2.2]) ∧ Below w.heap.size w w' := by
  have HT : Hid (csR a1 a2 a3 a4 b1 b2 b3 b4 = (0, 0, 1)) := Lib.hid (by unfold csR; rw [hok]; rfl)
  have KS : Hid (∀ W : World, Calls Try.prog 68 #[.agg #[.int .i64 a1, .int .i64 a2, .int .i64 a3, .int .i64 a4], .agg #[.int .i64 b1, .int .i64 b2, .int .i64 b3, .int .i64 b4]] W fun e w' => e = .returned (.tuple #[.agg #[.int .i64 0, .int .i64 0, .int .i64 0, .int .i64 0], .int .i64 1]) ∧ Below W.heap.size W w') := Lib.hid (fun W => ise_no W a1 a2 a3 a4 b1 b2 b3 b4 hok)
  clear hok
  go_enter Try.func33, Try.ntmps33
  go_wp2_with fail
  generalize hW : World.alloc _ _ = W
  have bA : Bk W (w.heap.size) #[.int .i64 a1, .int .i64 a2, .int .i64 a3, .int .i64 a4] 44 := by rw [← hW]; repeat (first | (refine Bk.new' ?_; (simp; done)) | refine Bk.alloc ?_ _)
  have bB : Bk W (w.heap.size + 1) #[.int .i64 b1, .int .i64 b2, .int .i64 b3, .int .i64 b4] 44 := by rw [← hW]; repeat (first | (refine Bk.new' ?_; (simp; done)) | refine Bk.alloc ?_ _)
  have bR : Bk W (w.heap.size + 1 + 1) #[.int .i64 0, .int .i64 0] 34 := by rw [← hW]; repeat (first | (refine Bk.new' ?_; (simp; done)) | refine Bk.alloc ?_ _)
  have HB : Hid (Below w.heap.size w W) := Lib.hid (by rw [← hW]; exact (by repeat (first | exact Below.refl _ _ | (refine Below.alloc ?_ (by simp <;> omega) _) | (refine Below.setCell ?_ (by simp <;> omega) _) | (refine Below.drew ?_) | (refine bel_drewN ?_ _))))
  clear hW
  refine (KS.out _).mono ?_
  rintro e w1 ⟨rfl, hb⟩
  replace bA := bA.on hb
  replace bB := bB.on hb
  replace bR := bR.on hb
  replace HB := Lib.hid (bel_end HB.out hb)
  clear hb
  have bA_0 := bA.cell 0 rfl
  have bA_1 := bA.cell 1 rfl
  have bA_2 := bA.cell 2 rfl
  have bA_3 := bA.cell 3 rfl
  have bA_l := bA.lt
  have bB_0 := bB.cell 0 rfl
  have bB_1 := bB.cell 1 rfl
  have bB_2 := bB.cell 2 rfl
  have bB_3 := bB.cell 3 rfl
  have bB_l := bB.lt
  have bR_0 := bR.cell 0 rfl
  have bR_1 := bR.cell 1 rfl
  have bR_l := bR.lt
  go_upto_region 2 with fail
  clear bA_0 bA_1 bA_2 bA_3 bA_l bB_0 bB_1 bB_2 bB_3 bB_l bR_0 bR_1 bR_l
  generalize hW : World.alloc _ _ = WN
  obtain ⟨gN, hg⟩ : ∃ g, g = w1.heap.size := ⟨_, rfl⟩
  have bN : Bk WN gN #[.int .i64 0, .int .i64 0, .int .i64 0, .int .i64 0] 44 := by rw [← hW]; exact Bk.new' hg
  have hb : Below w1.heap.size w1 WN := by rw [← hW]; exact (Below.refl _ _).alloc (Nat.le_refl _) _
  have ne_bA : gN ≠ w.heap.size := by have := bA.lt; omega
  have ne_bB : gN ≠ w.heap.size + 1 := by have := bB.lt; omega
  have ne_bR : gN ≠ w.heap.size + 1 + 1 := by have := bR.lt; omega
  have leN : w.heap.size ≤ gN := by rw [hg]; exact HB.out.size
  try rw [← hg]
  clear hW hg
  replace bA := bA.on hb
  replace bB := bB.on hb
  replace bR := bR.on hb
  replace HB := Lib.hid (bel_end HB.out hb)
  clear hb
  have bA_0 := bA.cell 0 rfl
  have bA_1 := bA.cell 1 rfl
  have bA_2 := bA.cell 2 rfl
  have bA_3 := bA.cell 3 rfl
  have bA_l := bA.lt
  have bB_0 := bB.cell 0 rfl
  have bB_1 := bB.cell 1 rfl
  have bB_2 := bB.cell 2 rfl
  have bB_3 := bB.cell 3 rfl
  have bB_l := bB.lt
  have bR_0 := bR.cell 0 rfl
  have bR_1 := bR.cell 1 rfl
  have bR_l := bR.lt
  have bN_0 := bN.cell 0 rfl
  have bN_1 := bN.cell 1 rfl
  have bN_2 := bN.cell 2 rfl
  have bN_3 := bN.cell 3 rfl
  have bN_l := bN.lt
  have bR_f0 := bR.frozen 0
  have bR_f1 := bR.frozen 1
  go_wp2
  exact bodyPost_ret (v := .tuple #[.agg #[.int .i64 0, .int .i64 0], .int .i64 1]) (by simp [results, Try.results33, go_sem, bR_0, bR_f0, bR_1, bR_f1, bR_l]) rfl ⟨res3r HT.out, (by repeat (first | exact HB.out | (refine Below.setCell ?_ (by simp <;> omega) _) | (refine Below.alloc ?_ (by simp <;> omega) _) | (refine Below.drew ?_)))⟩

set_option maxRecDepth 100000 in
set_option maxHeartbeats 8000000 in
theorem ics_ok (w : World) (a1 a2 a3 a4 b1 b2 b3 b4 : Int) (hok : okT a1 a2 a3 a4 b1 b2 b3 b4 = true) :
    Calls Try.prog 33 #[.agg #[.int .i64 a1, .int .i64 a2, .int .i64 a3, .int .i64 a4], .agg #[.int .i64 b1, .int .i64 b2, .int .i64 b3, .int .i64 b4]] w fun e w' => e = .returned (.tuple #[.agg #[.int .i64 (csR a1 a2 a3 a4 b1 b2 b3 b4).1, .int .i64 (csR a1 a2 a3 a4 b1 b2 b3 b4).2.1], .int .i64 (csR a1 a2 a3 a4 b1 b2 b3 b4).2.2]) ∧ Below w.heap.size w w' := by
  have hs := (okT_t hok).2.2
  have KS : Hid (∀ W : World, Calls Try.prog 68 #[.agg #[.int .i64 a1, .int .i64 a2, .int .i64 a3, .int .i64 a4], .agg #[.int .i64 b1, .int .i64 b2, .int .i64 b3, .int .i64 b4]] W fun e w' => e = .returned (.tuple #[.agg #[.int .i64 (b1 - a1), .int .i64 (b2 - a2), .int .i64 (b3 - a3), .int .i64 (b4 - a4)], .int .i64 0]) ∧ Below W.heap.size W w') := Lib.hid (fun W => ise_ok W a1 a2 a3 a4 b1 b2 b3 b4 hok)
  have HT : csR a1 a2 a3 a4 b1 b2 b3 b4 = rlT (lsN (b1 - a1) (b2 - a2) (b3 - a3) (b4 - a4)) (lsD (b1 - a1) (b2 - a2) (b3 - a3) (b4 - a4)) := by unfold csR; rw [hok]; rfl
  obtain ⟨X, hX⟩ : ∃ u, b1 - a1 = u := ⟨_, rfl⟩
  obtain ⟨Y, hY⟩ : ∃ u, b2 - a2 = u := ⟨_, rfl⟩
  obtain ⟨M, hM⟩ : ∃ u, b3 - a3 = u := ⟨_, rfl⟩
  obtain ⟨N, hN⟩ : ∃ u, b4 - a4 = u := ⟨_, rfl⟩
  rw [hX, hY, hM, hN] at KS hs
  rw [hX, hY, hM, hN] at HT
  clear hX hY hM hN hok
  have l := hs.ls
  have K1 : Hid (∀ W : World, Calls Try.prog 70 #[.agg #[.int .i64 X, .int .i64 Y, .int .i64 M, .int .i64 N]] W fun e w' => e = .returned (.tuple #[.int .i64 (lsN X Y M N), .int .i64 (lsD X Y M N)]) ∧ Below W.heap.size W w') := Lib.hid (fun W => ils_any W X Y M N hs)
  obtain ⟨D, hD⟩ : ∃ u, lsN X Y M N = u := ⟨_, rfl⟩
  obtain ⟨F, hF⟩ : ∃ u, lsD X Y M N = u := ⟨_, rfl⟩
  rw [hD, hF] at K1 HT l
  obtain ⟨⟨u, v, e⟩, hT⟩ : ∃ T, rlT D F = T := ⟨_, rfl⟩
  rw [hT] at HT
  have KL : Hid (∀ W : World, Calls Try.prog 61 #[.int .i64 D, .int .i64 F] W fun e' w' => e' = .returned (.tuple #[.agg #[.int .i64 u, .int .i64 v], .int .i64 e]) ∧ Below W.heap.size W w') := Lib.hid (fun W => irl_is hT (by omega) (by omega) (by omega) (by omega) (by omega) W)
  replace HT := Lib.hid HT
  clear l hs hD hF hT
  go_enter Try.func33, Try.ntmps33
  go_wp2_with fail
  generalize hW : World.alloc _ _ = W
  have bA : Bk W (w.heap.size) #[.int .i64 a1, .int .i64 a2, .int .i64 a3, .int .i64 a4] 44 := by rw [← hW]; repeat (first | (refine Bk.new' ?_; (simp; done)) | refine Bk.alloc ?_ _)
  have bB : Bk W (w.heap.size + 1) #[.int .i64 b1, .int .i64 b2, .int .i64 b3, .int .i64 b4] 44 := by rw [← hW]; repeat (first | (refine Bk.new' ?_; (simp; done)) | refine Bk.alloc ?_ _)
  have bR : Bk W (w.heap.size + 1 + 1) #[.int .i64 0, .int .i64 0] 34 := by rw [← hW]; repeat (first | (refine Bk.new' ?_; (simp; done)) | refine Bk.alloc ?_ _)
  have HB : Hid (Below w.heap.size w W) := Lib.hid (by rw [← hW]; exact (by repeat (first | exact Below.refl _ _ | (refine Below.alloc ?_ (by simp <;> omega) _) | (refine Below.setCell ?_ (by simp <;> omega) _) | (refine Below.drew ?_) | (refine bel_drewN ?_ _))))
  clear hW
  refine (KS.out _).mono ?_
  rintro e w1 ⟨rfl, hb⟩
  replace bA := bA.on hb
  replace bB := bB.on hb
  replace bR := bR.on hb
  replace HB := Lib.hid (bel_end HB.out hb)
  clear hb
  have bA_0 := bA.cell 0 rfl
  have bA_1 := bA.cell 1 rfl
  have bA_2 := bA.cell 2 rfl
  have bA_3 := bA.cell 3 rfl
  have bA_l := bA.lt
  have bB_0 := bB.cell 0 rfl
  have bB_1 := bB.cell 1 rfl
  have bB_2 := bB.cell 2 rfl
  have bB_3 := bB.cell 3 rfl
  have bB_l := bB.lt
  have bR_0 := bR.cell 0 rfl
  have bR_1 := bR.cell 1 rfl
  have bR_l := bR.lt
  go_upto_region 2 with fail
  clear bA_0 bA_1 bA_2 bA_3 bA_l bB_0 bB_1 bB_2 bB_3 bB_l bR_0 bR_1 bR_l
  generalize hW : World.alloc _ _ = WN
  obtain ⟨gN, hg⟩ : ∃ g, g = w1.heap.size := ⟨_, rfl⟩
  have bN : Bk WN gN #[.int .i64 X, .int .i64 Y, .int .i64 M, .int .i64 N] 44 := by rw [← hW]; exact Bk.new' hg
  have hb : Below w1.heap.size w1 WN := by rw [← hW]; exact (Below.refl _ _).alloc (Nat.le_refl _) _
  have ne_bA : gN ≠ w.heap.size := by have := bA.lt; omega
  have ne_bB : gN ≠ w.heap.size + 1 := by have := bB.lt; omega
  have ne_bR : gN ≠ w.heap.size + 1 + 1 := by have := bR.lt; omega
  have leN : w.heap.size ≤ gN := by rw [hg]; exact HB.out.size
  try rw [← hg]
  clear hW hg
  replace bA := bA.on hb
  replace bB := bB.on hb
  replace bR := bR.on hb
  replace HB := Lib.hid (bel_end HB.out hb)
  clear hb
  clear bA bB ne_bA ne_bB
  have bR_0 := bR.cell 0 rfl
  have bR_1 := bR.cell 1 rfl
  have bR_l := bR.lt
  have bN_0 := bN.cell 0 rfl
  have bN_1 := bN.cell 1 rfl
  have bN_2 := bN.cell 2 rfl
  have bN_3 := bN.cell 3 rfl
  have bN_l := bN.lt
  go_wp2_with fail
  refine (K1.out _).mono ?_
  rintro e w2 ⟨rfl, hb⟩
  replace bR := bR.on hb
  replace bN := bN.on hb
  replace HB := Lib.hid (bel_end HB.out hb)
  clear hb
  clear bR_0 bR_1 bR_l bN_0 bN_1 bN_2 bN_3 bN_l
  have bR_0 := bR.cell 0 rfl
  have bR_1 := bR.cell 1 rfl
  have bR_l := bR.lt
  have bN_0 := bN.cell 0 rfl
  have bN_1 := bN.cell 1 rfl
  have bN_2 := bN.cell 2 rfl
  have bN_3 := bN.cell 3 rfl
  have bN_l := bN.lt
  go_wp2_with fail
  refine (KL.out _).mono ?_
  rintro e w3 ⟨rfl, hb⟩
  replace bR := bR.on hb
  replace bN := bN.on hb
  replace HB := Lib.hid (bel_end HB.out hb)
  clear hb
  clear bR_0 bR_1 bR_l bN_0 bN_1 bN_2 bN_3 bN_l
  have bR_0 := bR.cell 0 rfl
  have bR_1 := bR.cell 1 rfl
  have bR_l := bR.lt
  have bN_0 := bN.cell 0 rfl
  have bN_1 := bN.cell 1 rfl
  have bN_2 := bN.cell 2 rfl
  have bN_3 := bN.cell 3 rfl
  have bN_l := bN.lt
  have bR_f0 := bR.frozen 0
  have bR_f1 := bR.frozen 1
  go_wp2
  exact bodyPost_ret (v := .tuple #[.agg #[.int .i64 u, .int .i64 v], .int .i64 e]) (by simp [results, Try.results33, go_sem, bR_0, bR_f0, bR_1, bR_f1, bR_l]) rfl ⟨res3r HT.out, (by repeat (first | exact HB.out | (refine Below.setCell ?_ (by simp <;> omega) _) | (refine Below.alloc ?_ (by simp <;> omega) _) | (refine Below.drew ?_)))⟩

theorem ics_any (w : World) (a1 a2 a3 a4 b1 b2 b3 b4 : Int) : Calls Try.prog 33 #[.agg #[.int .i64 a1, .int .i64 a2, .int .i64 a3, .int .i64 a4], .agg #[.int .i64 b1, .int .i64 b2, .int .i64 b3, .int .i64 b4]] w fun e w' => e = .returned (.tuple #[.agg #[.int .i64 (csR a1 a2 a3 a4 b1 b2 b3 b4).1, .int .i64 (csR a1 a2 a3 a4 b1 b2 b3 b4).2.1], .int .i64 (csR a1 a2 a3 a4 b1 b2 b3 b4).2.2]) ∧ Below w.heap.size w w' := by
  cases hok : okT a1 a2 a3 a4 b1 b2 b3 b4
  · exact ics_no w a1 a2 a3 a4 b1 b2 b3 b4 hok
  · exact ics_ok w a1 a2 a3 a4 b1 b2 b3 b4 hok

theorem retbe {a a' : Bool} {b b' : Int} (h : a' = a) (g : b' = b) : Ending.returned (.tuple #[.bool a, .int .i64 b]) = .returned (.tuple #[.bool a', .int .i64 b']) := by rw [h, g]

set_option maxRecDepth 100000 in
set_option maxHeartbeats 8000000 in
theorem idm_no (w : World) (a1 a2 a3 a4 b1 b2 b3 b4 : Int) (hok : okT a1 a2 a3 a4 b1 b2 b3 b4 = false) :
    Calls Try.prog 37 #[.agg #[.int .i64 a1, .int .i64 a2, .int .i64 a3, .int .i64 a4], .agg #[.int .i64 b1, .int .i64 b2, .int .i64 b3, .int .i64 b4]] w fun e w' => e = .returned (.tuple #[.bool (dmB a1 a2 a3 a4 b1 b2 b3 b4), .int .i64 (dmC a1 a2 a3 a4 b1 b2 b3 b4)]) ∧ Below w.heap.size w w' := by
  have HT : Hid (dmB a1 a2 a3 a4 b1 b2 b3 b4 = false ∧ dmC a1 a2 a3 a4 b1 b2 b3 b4 = 1) := Lib.hid (by unfold dmB dmC; rw [hok]; exact ⟨rfl, rfl⟩)
  have KS : Hid (∀ W : World, Calls Try.prog 68 #[.agg #[.int .i64 a1, .int .i64 a2, .int .i64 a3, .int .i64 a4], .agg #[.int .i64 b1, .int .i64 b2, .int .i64 b3, .int .i64 b4]] W fun e w' => e = .returned (.tuple #[.agg #[.int .i64 0, .int .i64 0, .int .i64 0, .int .i64 0], .int .i64 1]) ∧ Below W.heap.size W w') := Lib.hid (fun W => ise_no W a1 a2 a3 a4 b1 b2 b3 b4 hok)
  clear hok
  go_enter Try.func37, Try.ntmps37
  go_wp2_with fail
  generalize hW : World.alloc _ _ = W
  have bA : Bk W (w.heap.size) #[.int .i64 a1, .int .i64 a2, .int .i64 a3, .int .i64 a4] 44 := by rw [← hW]; repeat (first | (refine Bk.new' ?_; (simp; done)) | refine Bk.alloc ?_ _)
  have bB : Bk W (w.heap.size + 1) #[.int .i64 b1, .int .i64 b2, .int .i64 b3, .int .i64 b4] 44 := by rw [← hW]; repeat (first | (refine Bk.new' ?_; (simp; done)) | refine Bk.alloc ?_ _)
  have HB : Hid (Below w.heap.size w W) := Lib.hid (by rw [← hW]; exact (by repeat (first | exact Below.refl _ _ | (refine Below.alloc ?_ (by simp <;> omega) _) | (refine Below.setCell ?_ (by simp <;> omega) _) | (refine Below.drew ?_) | (refine bel_drewN ?_ _))))
  clear hW
  refine (KS.out _).mono ?_
  rintro e w1 ⟨rfl, hb⟩
  replace bA := bA.on hb
  replace bB := bB.on hb
  replace HB := Lib.hid (bel_end HB.out hb)
  clear hb
  have bA_0 := bA.cell 0 rfl
  have bA_1 := bA.cell 1 rfl
  have bA_2 := bA.cell 2 rfl
  have bA_3 := bA.cell 3 rfl
  have bA_l := bA.lt
  have bB_0 := bB.cell 0 rfl
  have bB_1 := bB.cell 1 rfl
  have bB_2 := bB.cell 2 rfl
  have bB_3 := bB.cell 3 rfl
  have bB_l := bB.lt
  go_upto_region 2 with fail
  clear bA_0 bA_1 bA_2 bA_3 bA_l bB_0 bB_1 bB_2 bB_3 bB_l
  generalize hW : World.alloc _ _ = WN
  obtain ⟨gN, hg⟩ : ∃ g, g = w1.heap.size := ⟨_, rfl⟩
  have bN : Bk WN gN #[.int .i64 0, .int .i64 0, .int .i64 0, .int .i64 0] 44 := by rw [← hW]; exact Bk.new' hg
  have hb : Below w1.heap.size w1 WN := by rw [← hW]; exact (Below.refl _ _).alloc (Nat.le_refl _) _
  have ne_bA : gN ≠ w.heap.size := by have := bA.lt; omega
  have ne_bB : gN ≠ w.heap.size + 1 := by have := bB.lt; omega
  have leN : w.heap.size ≤ gN := by rw [hg]; exact HB.out.size
  try rw [← hg]
  clear hW hg
  replace bA := bA.on hb
  replace bB := bB.on hb
  replace HB := Lib.hid (bel_end HB.out hb)
  clear hb
  have bA_0 := bA.cell 0 rfl
  have bA_1 := bA.cell 1 rfl
  have bA_2 := bA.cell 2 rfl
  have bA_3 := bA.cell 3 rfl
  have bA_l := bA.lt
  have bB_0 := bB.cell 0 rfl
  have bB_1 := bB.cell 1 rfl
  have bB_2 := bB.cell 2 rfl
  have bB_3 := bB.cell 3 rfl
  have bB_l := bB.lt
  have bN_0 := bN.cell 0 rfl
  have bN_1 := bN.cell 1 rfl
  have bN_2 := bN.cell 2 rfl
  have bN_3 := bN.cell 3 rfl
  have bN_l := bN.lt
  go_wp2
  go_ret2
  exact ⟨retbe HT.out.1 HT.out.2, HB.out⟩

set_option maxRecDepth 100000 in
set_option maxHeartbeats 8000000 in
theorem idm_ok (w : World) (a1 a2 a3 a4 b1 b2 b3 b4 : Int) (hok : okT a1 a2 a3 a4 b1 b2 b3 b4 = true) :
    Calls Try.prog 37 #[.agg #[.int .i64 a1, .int .i64 a2, .int .i64 a3, .int .i64 a4], .agg #[.int .i64 b1, .int .i64 b2, .int .i64 b3, .int .i64 b4]] w fun e w' => e = .returned (.tuple #[.bool (dmB a1 a2 a3 a4 b1 b2 b3 b4), .int .i64 (dmC a1 a2 a3 a4 b1 b2 b3 b4)]) ∧ Below w.heap.size w w' := by
  have hs := (okT_t hok).2.2
  have KS : Hid (∀ W : World, Calls Try.prog 68 #[.agg #[.int .i64 a1, .int .i64 a2, .int .i64 a3, .int .i64 a4], .agg #[.int .i64 b1, .int .i64 b2, .int .i64 b3, .int .i64 b4]] W fun e w' => e = .returned (.tuple #[.agg #[.int .i64 (b1 - a1), .int .i64 (b2 - a2), .int .i64 (b3 - a3), .int .i64 (b4 - a4)], .int .i64 0]) ∧ Below W.heap.size W w') := Lib.hid (fun W => ise_ok W a1 a2 a3 a4 b1 b2 b3 b4 hok)
  have HT : dmB a1 a2 a3 a4 b1 b2 b3 b4 = (lsN (b1 - a1) (b2 - a2) (b3 - a3) (b4 - a4) == 0) ∧ dmC a1 a2 a3 a4 b1 b2 b3 b4 = 0 := by unfold dmB dmC; rw [hok]; exact ⟨rfl, rfl⟩
  obtain ⟨X, hX⟩ : ∃ u, b1 - a1 = u := ⟨_, rfl⟩
  obtain ⟨Y, hY⟩ : ∃ u, b2 - a2 = u := ⟨_, rfl⟩
  obtain ⟨M, hM⟩ : ∃ u, b3 - a3 = u := ⟨_, rfl⟩
  obtain ⟨N, hN⟩ : ∃ u, b4 - a4 = u := ⟨_, rfl⟩
  rw [hX, hY, hM, hN] at KS hs
  rw [hX, hY, hM, hN] at HT
  clear hX hY hM hN hok
  have K1 : Hid (∀ W : World, Calls Try.prog 70 #[.agg #[.int .i64 X, .int .i64 Y, .int .i64 M, .int .i64 N]] W fun e w' => e = .returned (.tuple #[.int .i64 (lsN X Y M N), .int .i64 (lsD X Y M N)]) ∧ Below W.heap.size W w') := Lib.hid (fun W => ils_any W X Y M N hs)
  obtain ⟨D, hD⟩ : ∃ u, lsN X Y M N = u := ⟨_, rfl⟩
  rw [hD] at K1 HT
  replace HT := Lib.hid HT
  clear hs hD
  go_enter Try.func37, Try.ntmps37
  go_wp2_with fail
  generalize hW : World.alloc _ _ = W
  have bA : Bk W (w.heap.size) #[.int .i64 a1, .int .i64 a2, .int .i64 a3, .int .i64 a4] 44 := by rw [← hW]; repeat (first | (refine Bk.new' ?_; (simp; done)) | refine Bk.alloc ?_ _)
  have bB : Bk W (w.heap.size + 1) #[.int .i64 b1, .int .i64 b2, .int .i64 b3, .int .i64 b4] 44 := by rw [← hW]; repeat (first | (refine Bk.new' ?_; (simp; done)) | refine Bk.alloc ?_ _)
  have HB : Hid (Below w.heap.size w W) := Lib.hid (by rw [← hW]; exact (by repeat (first | exact Below.refl _ _ | (refine Below.alloc ?_ (by simp <;> omega) _) | (refine Below.setCell ?_ (by simp <;> omega) _) | (refine Below.drew ?_) | (refine bel_drewN ?_ _))))
  clear hW
  refine (KS.out _).mono ?_
  rintro e w1 ⟨rfl, hb⟩
  replace bA := bA.on hb
  replace bB := bB.on hb
  replace HB := Lib.hid (bel_end HB.out hb)
  clear hb
  have bA_0 := bA.cell 0 rfl
  have bA_1 := bA.cell 1 rfl
  have bA_2 := bA.cell 2 rfl
  have bA_3 := bA.cell 3 rfl
  have bA_l := bA.lt
  have bB_0 := bB.cell 0 rfl
  have bB_1 := bB.cell 1 rfl
  have bB_2 := bB.cell 2 rfl
  have bB_3 := bB.cell 3 rfl
  have bB_l := bB.lt
  go_upto_region 2 with fail
  clear bA_0 bA_1 bA_2 bA_3 bA_l bB_0 bB_1 bB_2 bB_3 bB_l
  generalize hW : World.alloc _ _ = WN
  obtain ⟨gN, hg⟩ : ∃ g, g = w1.heap.size := ⟨_, rfl⟩
  have bN : Bk WN gN #[.int .i64 X, .int .i64 Y, .int .i64 M, .int .i64 N] 44 := by rw [← hW]; exact Bk.new' hg
  have hb : Below w1.heap.size w1 WN := by rw [← hW]; exact (Below.refl _ _).alloc (Nat.le_refl _) _
  have ne_bA : gN ≠ w.heap.size := by have := bA.lt; omega
  have ne_bB : gN ≠ w.heap.size + 1 := by have := bB.lt; omega
  have leN : w.heap.size ≤ gN := by rw [hg]; exact HB.out.size
  try rw [← hg]
  clear hW hg
  replace bA := bA.on hb
  replace bB := bB.on hb
  replace HB := Lib.hid (bel_end HB.out hb)
  clear hb
  have bA_0 := bA.cell 0 rfl
  have bA_1 := bA.cell 1 rfl
  have bA_2 := bA.cell 2 rfl
  have bA_3 := bA.cell 3 rfl
  have bA_l := bA.lt
  have bB_0 := bB.cell 0 rfl
  have bB_1 := bB.cell 1 rfl
  have bB_2 := bB.cell 2 rfl
  have bB_3 := bB.cell 3 rfl
  have bB_l := bB.lt
  have bN_0 := bN.cell 0 rfl
  have bN_1 := bN.cell 1 rfl
  have bN_2 := bN.cell 2 rfl
  have bN_3 := bN.cell 3 rfl
  have bN_l := bN.lt
  go_wp2_with fail
  refine (K1.out _).mono ?_
  rintro e w2 ⟨rfl, hb⟩
  replace bA := bA.on hb
  replace bB := bB.on hb
  replace bN := bN.on hb
  replace HB := Lib.hid (bel_end HB.out hb)
  clear hb
  clear bA_0 bA_1 bA_2 bA_3 bA_l bB_0 bB_1 bB_2 bB_3 bB_l bN_0 bN_1 bN_2 bN_3 bN_l
  have bA_0 := bA.cell 0 rfl
  have bA_1 := bA.cell 1 rfl
  have bA_2 := bA.cell 2 rfl
  have bA_3 := bA.cell 3 rfl
  have bA_l := bA.lt
  have bB_0 := bB.cell 0 rfl
  have bB_1 := bB.cell 1 rfl
  have bB_2 := bB.cell 2 rfl
  have bB_3 := bB.cell 3 rfl
  have bB_l := bB.lt
  have bN_0 := bN.cell 0 rfl
  have bN_1 := bN.cell 1 rfl
  have bN_2 := bN.cell 2 rfl
  have bN_3 := bN.cell 3 rfl
  have bN_l := bN.lt
  go_wp2
  go_ret2
  exact ⟨retbe HT.out.1 HT.out.2, HB.out⟩

theorem idm_any (w : World) (a1 a2 a3 a4 b1 b2 b3 b4 : Int) : Calls Try.prog 37 #[.agg #[.int .i64 a1, .int .i64 a2, .int .i64 a3, .int .i64 a4], .agg #[.int .i64 b1, .int .i64 b2, .int .i64 b3, .int .i64 b4]] w fun e w' => e = .returned (.tuple #[.bool (dmB a1 a2 a3 a4 b1 b2 b3 b4), .int .i64 (dmC a1 a2 a3 a4 b1 b2 b3 b4)]) ∧ Below w.heap.size w w' := by
  cases hok : okT a1 a2 a3 a4 b1 b2 b3 b4
  · exact idm_no w a1 a2 a3 a4 b1 b2 b3 b4 hok
  · exact idm_ok w a1 a2 a3 a4 b1 b2 b3 b4 hok
end Go.Proofs.Ytkjpjhklnaehbaa
