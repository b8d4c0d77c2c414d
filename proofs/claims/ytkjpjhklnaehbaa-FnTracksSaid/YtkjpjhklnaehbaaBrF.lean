/- Contracts of the model's ClosestTime, ClosestSquare, BearingDrift, DoMeet. -/
import Derived.Test.YtkjpjhklnaehbaaBrE
namespace Go.Proofs.Ytkjpjhklnaehbaa
open Go.ChangeShapes Go.WideShapes Go.ChangeAt Go.RowKit Go.Shelf Num
set_option linter.unusedVariables false
set_option linter.unusedSimpArgs false

/-- two new points in blocks of the call's own -/
def TwoP (wx : World) (s6 s7 : Value) (X Y M N : Int) (B : Nat) : Prop := ∃ g1 g2 : Nat, s6 = .pointer (some ⟨g1, 0, none⟩) ∧ s7 = .pointer (some ⟨g2, 0, none⟩) ∧ Bk wx g1 #[.int .i64 X, .int .i64 Y] 25 ∧ Bk wx g2 #[.int .i64 M, .int .i64 N] 25 ∧ B ≤ g1 ∧ B ≤ g2

set_option maxRecDepth 100000 in
set_option maxHeartbeats 8000000 in
theorem sct_no (w : World) (a1 a2 a3 a4 b1 b2 b3 b4 : Int) (hok : okT a1 a2 a3 a4 b1 b2 b3 b4 = false) :
    Calls Try.prog 30 #[.agg #[.int .i64 a1, .int .i64 a2, .int .i64 a3, .int .i64 a4], .agg #[.int .i64 b1, .int .i64 b2, .int .i64 b3, .int .i64 b4]] w fun e w' => e = .returned (.tuple #[.agg #[.int .i64 (ctR a1 a2 a3 a4 b1 b2 b3 b4).1, .int .i64 (ctR a1 a2 a3 a4 b1 b2 b3 b4).2.1], .int .i64 (ctR a1 a2 a3 a4 b1 b2 b3 b4).2.2]) ∧ Below w.heap.size w w' := by
  have HT : Hid (ctR a1 a2 a3 a4 b1 b2 b3 b4 = (0, 0, 1)) := Lib.hid (by unfold ctR; rw [hok]; rfl)
  obtain ⟨P, hP⟩ : ∃ q, tkB a1 a2 a3 a4 = q := ⟨_, rfl⟩
  obtain ⟨R, hR⟩ : ∃ q, tkB b1 b2 b3 b4 = q := ⟨_, rfl⟩
  unfold okT at hok
  rw [hP, hR] at hok
  have HO := Lib.hid hok
  have KA : Hid (∀ W : World, Calls Try.prog 62 #[.agg #[.int .i64 a1, .int .i64 a2, .int .i64 a3, .int .i64 a4]] W fun e w' => e = .returned (.bool P) ∧ Below W.heap.size W w') := Lib.hid (fun W => by have := ltk_any W a1 a2 a3 a4; rwa [hP] at this)
  have KB : Hid (∀ W : World, Calls Try.prog 62 #[.agg #[.int .i64 b1, .int .i64 b2, .int .i64 b3, .int .i64 b4]] W fun e w' => e = .returned (.bool R) ∧ Below W.heap.size W w') := Lib.hid (fun W => by have := ltk_any W b1 b2 b3 b4; rwa [hR] at this)
  clear hP hR hok
  go_enter Try.func30, Try.ntmps30
  go_wp2_with fail
  generalize hW : World.alloc _ _ = W
  have bA : Bk W (w.heap.size) #[.int .i64 a1, .int .i64 a2, .int .i64 a3, .int .i64 a4] 44 := by rw [← hW]; repeat (first | (refine Bk.new' ?_; (simp; done)) | refine Bk.alloc ?_ _)
  have bB : Bk W (w.heap.size + 1) #[.int .i64 b1, .int .i64 b2, .int .i64 b3, .int .i64 b4] 44 := by rw [← hW]; repeat (first | (refine Bk.new' ?_; (simp; done)) | refine Bk.alloc ?_ _)
  have bR : Bk W (w.heap.size + 1 + 1) #[.int .i64 0, .int .i64 0] 34 := by rw [← hW]; repeat (first | (refine Bk.new' ?_; (simp; done)) | refine Bk.alloc ?_ _)
  have HB : Hid (Below w.heap.size w W) := Lib.hid (by rw [← hW]; exact (by repeat (first | exact Below.refl _ _ | (refine Below.alloc ?_ (by simp <;> omega) _) | (refine Below.setCell ?_ (by simp <;> omega) _) | (refine Below.drew ?_) | (refine bel_drewN ?_ _))))
  clear hW
  refine (KA.out _).mono ?_
  rintro e w1 ⟨rfl, hb⟩
  replace bA := bA.on hb
  replace bB := bB.on hb
  replace bR := bR.on hb
  replace HB := Lib.hid (bel_end HB.out hb)
  clear hb
  cases hP : P
  case false =>
    subst hP
    have bA_0 := bA.cell 0 rfl
    have bA_1 := bA.cell 1 rfl
    have bA_2 := bA.cell 2 rfl
    have bA_3 := bA.cell 3 rfl
    have bA_l := bA.lt
    have bB_0 := bB.cell 0 rfl
    have bB_1 := bB.cell 1 rfl
    have bB_2 := bB.cell 2 rfl
    have bB_3 := bB.cell 3 rfl
    have bB_l := bB.lt
    have bR_0 := bR.cell 0 rfl
    have bR_1 := bR.cell 1 rfl
    have bR_l := bR.lt
    have bR_f0 := bR.frozen 0
    have bR_f1 := bR.frozen 1
    go_wp2
    exact bodyPost_ret (v := .tuple #[.agg #[.int .i64 0, .int .i64 0], .int .i64 1]) (by simp [results, Try.results30, go_sem, bR_0, bR_f0, bR_1, bR_f1, bR_l]) rfl ⟨res3r HT.out, (by repeat (first | exact HB.out | (refine Below.setCell ?_ (by simp <;> omega) _) | (refine Below.alloc ?_ (by simp <;> omega) _) | (refine Below.drew ?_)))⟩
  case true =>
    subst hP
    obtain rfl : R = false := HO.out
    have bA_0 := bA.cell 0 rfl
    have bA_1 := bA.cell 1 rfl
    have bA_2 := bA.cell 2 rfl
    have bA_3 := bA.cell 3 rfl
    have bA_l := bA.lt
    have bB_0 := bB.cell 0 rfl
    have bB_1 := bB.cell 1 rfl
    have bB_2 := bB.cell 2 rfl
    have bB_3 := bB.cell 3 rfl
    have bB_l := bB.lt
    have bR_0 := bR.cell 0 rfl
    have bR_1 := bR.cell 1 rfl
    have bR_l := bR.lt
    go_wp2_with fail
    refine (KB.out _).mono ?_
    rintro e w2 ⟨rfl, hb⟩
    replace bA := bA.on hb
    replace bB := bB.on hb
    replace bR := bR.on hb
    replace HB := Lib.hid (bel_end HB.out hb)
    clear hb
    clear bA_0 bA_1 bA_2 bA_3 bA_l bB_0 bB_1 bB_2 bB_3 bB_l bR_0 bR_1 bR_l
    have bA_0 := bA.cell 0 rfl
    have bA_1 := bA.cell 1 rfl
    have bA_2 := bA.cell 2 rfl
    have bA_3 := bA.cell 3 rfl
    have bA_l := bA.lt
    have bB_0 := bB.cell 0 rfl
    have bB_1 := bB.cell 1 rfl
    have bB_2 := bB.cell 2 rfl
    have bB_3 := bB.cell 3 rfl
    have bB_l := bB.lt
    have bR_0 := bR.cell 0 rfl
    have bR_1 := bR.cell 1 rfl
    have bR_l := bR.lt
    have bR_f0 := bR.frozen 0
    have bR_f1 := bR.frozen 1
    go_wp2
    exact bodyPost_ret (v := .tuple #[.agg #[.int .i64 0, .int .i64 0], .int .i64 1]) (by simp [results, Try.results30, go_sem, bR_0, bR_f0, bR_1, bR_f1, bR_l]) rfl ⟨res3r HT.out, (by repeat (first | exact HB.out | (refine Below.setCell ?_ (by simp <;> omega) _) | (refine Below.alloc ?_ (by simp <;> omega) _) | (refine Below.drew ?_)))⟩

set_option maxRecDepth 100000 in
set_option maxHeartbeats 8000000 in
theorem sct_ok (w : World) (a1 a2 a3 a4 b1 b2 b3 b4 : Int) (hok : okT a1 a2 a3 a4 b1 b2 b3 b4 = true) :
    Calls Try.prog 30 #[.agg #[.int .i64 a1, .int .i64 a2, .int .i64 a3, .int .i64 a4], .agg #[.int .i64 b1, .int .i64 b2, .int .i64 b3, .int .i64 b4]] w fun e w' => e = .returned (.tuple #[.agg #[.int .i64 (ctR a1 a2 a3 a4 b1 b2 b3 b4).1, .int .i64 (ctR a1 a2 a3 a4 b1 b2 b3 b4).2.1], .int .i64 (ctR a1 a2 a3 a4 b1 b2 b3 b4).2.2]) ∧ Below w.heap.size w w' := by
  obtain ⟨ha, hb, hs⟩ := okT_t hok
  have ba := tkB_t ha
  have bb := tkB_t hb
  have KA : Hid (∀ W : World, Calls Try.prog 62 #[.agg #[.int .i64 a1, .int .i64 a2, .int .i64 a3, .int .i64 a4]] W fun e w' => e = .returned (.bool true) ∧ Below W.heap.size W w') := Lib.hid (fun W => by have := ltk_any W a1 a2 a3 a4; rwa [ha] at this)
  have KB : Hid (∀ W : World, Calls Try.prog 62 #[.agg #[.int .i64 b1, .int .i64 b2, .int .i64 b3, .int .i64 b4]] W fun e w' => e = .returned (.bool true) ∧ Below W.heap.size W w') := Lib.hid (fun W => by have := ltk_any W b1 b2 b3 b4; rwa [hb] at this)
  have KL1 : Hid (∀ W : World, Calls Try.prog 51 #[.agg #[.int .i64 b1, .int .i64 b2], .agg #[.int .i64 a1, .int .i64 a2]] W fun e w' => e = .returned (.agg #[.int .i64 (b1 - a1), .int .i64 (b2 - a2)]) ∧ Below W.heap.size W w') := Lib.hid (fun W => lle_any W b1 b2 a1 a2 (by omega) (by omega) (by omega) (by omega) (by omega) (by omega) (by omega) (by omega))
  have KL2 : Hid (∀ W : World, Calls Try.prog 51 #[.agg #[.int .i64 b3, .int .i64 b4], .agg #[.int .i64 a3, .int .i64 a4]] W fun e w' => e = .returned (.agg #[.int .i64 (b3 - a3), .int .i64 (b4 - a4)]) ∧ Below W.heap.size W w') := Lib.hid (fun W => lle_any W b3 b4 a3 a4 (by omega) (by omega) (by omega) (by omega) (by omega) (by omega) (by omega) (by omega))
  have HT0 : ctR a1 a2 a3 a4 b1 b2 b3 b4 = ctT (b1 - a1) (b2 - a2) (b3 - a3) (b4 - a4) := by unfold ctR; rw [hok]; rfl
  obtain ⟨X, hX⟩ : ∃ u, b1 - a1 = u := ⟨_, rfl⟩
  obtain ⟨Y, hY⟩ : ∃ u, b2 - a2 = u := ⟨_, rfl⟩
  obtain ⟨M, hM⟩ : ∃ u, b3 - a3 = u := ⟨_, rfl⟩
  obtain ⟨N, hN⟩ : ∃ u, b4 - a4 = u := ⟨_, rfl⟩
  rw [hX, hY] at KL1
  rw [hM, hN] at KL2
  rw [hX, hY, hM, hN] at hs
  rw [hX, hY, hM, hN] at HT0
  clear hX hY hM hN hok ha hb ba bb
  have d := hs.dt
  have p := hs.pr
  have q := hs.ss
  have K1 : Hid (∀ W : World, Calls Try.prog 67 #[.agg #[.int .i64 X, .int .i64 Y], .agg #[.int .i64 M, .int .i64 N]] W fun e w' => e = .returned (.int .i64 (dt2 X Y M N)) ∧ Below W.heap.size W w') := Lib.hid (fun W => ldt_any W X Y M N (by omega) (by omega) (by omega) (by omega))
  have K2 : Hid (∀ W : World, Calls Try.prog 67 #[.agg #[.int .i64 M, .int .i64 N], .agg #[.int .i64 M, .int .i64 N]] W fun e w' => e = .returned (.int .i64 (dt2 M N M N)) ∧ Below W.heap.size W w') := Lib.hid (fun W => ldt_any W M N M N (by omega) (by omega) (by omega) (by omega))
  have dp : ¬ (M = 0 ∧ N = 0) → ¬ dt2 M N M N = 0 := fun h e => h (dt2_z e)
  have HT1 : ¬ (M = 0 ∧ N = 0) → ctR a1 a2 a3 a4 b1 b2 b3 b4 = rlT (if dt2 X Y M N < 0 then -dt2 X Y M N else 0) (dt2 M N M N) := fun h => by rw [HT0]; unfold ctT; rw [if_neg h]
  obtain ⟨D, hD⟩ : ∃ u, dt2 X Y M N = u := ⟨_, rfl⟩
  obtain ⟨F, hF⟩ : ∃ u, dt2 M N M N = u := ⟨_, rfl⟩
  rw [hD] at K1 HT1 d
  rw [hF] at K2 HT1 d dp
  obtain ⟨G, hG⟩ : ∃ u, (if D < 0 then -D else 0) = u := ⟨_, rfl⟩
  rw [hG] at HT1
  have g1_ : 0 ≤ G ∧ G ≤ 800000000 := by rw [← hG]; split <;> omega
  have eD : IntKind.wrap .i64 (-D) = -D := IntWalk.i64_in _ (by omega)
  have HG := Lib.hid hG
  clear hG
  obtain ⟨⟨u, v, e⟩, hT⟩ : ∃ T, rlT G F = T := ⟨_, rfl⟩
  rw [hT] at HT1
  have KL : Hid (¬ (M = 0 ∧ N = 0) → ∀ W : World, Calls Try.prog 59 #[.int .i64 G, .int .i64 F] W fun e' w' => e' = .returned (.tuple #[.agg #[.int .i64 u, .int .i64 v], .int .i64 e]) ∧ Below W.heap.size W w') := Lib.hid (fun h W => lrl_is hT (by omega) (by omega) (by omega) (by omega) (dp h) W)
  replace HT1 := Lib.hid HT1
  replace HT0 := Lib.hid HT0
  clear d p q hs hD hF hT dp g1_
  go_enter Try.func30, Try.ntmps30
  go_wp2_with fail
  generalize hW : World.alloc _ _ = W
  have bA : Bk W (w.heap.size) #[.int .i64 a1, .int .i64 a2, .int .i64 a3, .int .i64 a4] 44 := by rw [← hW]; repeat (first | (refine Bk.new' ?_; (simp; done)) | refine Bk.alloc ?_ _)
  have bB : Bk W (w.heap.size + 1) #[.int .i64 b1, .int .i64 b2, .int .i64 b3, .int .i64 b4] 44 := by rw [← hW]; repeat (first | (refine Bk.new' ?_; (simp; done)) | refine Bk.alloc ?_ _)
  have bR : Bk W (w.heap.size + 1 + 1) #[.int .i64 0, .int .i64 0] 34 := by rw [← hW]; repeat (first | (refine Bk.new' ?_; (simp; done)) | refine Bk.alloc ?_ _)
  have HB : Hid (Below w.heap.size w W) := Lib.hid (by rw [← hW]; exact (by repeat (first | exact Below.refl _ _ | (refine Below.alloc ?_ (by simp <;> omega) _) | (refine Below.setCell ?_ (by simp <;> omega) _) | (refine Below.drew ?_) | (refine bel_drewN ?_ _))))
  clear hW
  refine (KA.out _).mono ?_
  rintro e w1 ⟨rfl, hb⟩
  replace bA := bA.on hb
  replace bB := bB.on hb
  replace bR := bR.on hb
  replace HB := Lib.hid (bel_end HB.out hb)
  clear hb
  have bA_0 := bA.cell 0 rfl
  have bA_1 := bA.cell 1 rfl
  have bA_2 := bA.cell 2 rfl
  have bA_3 := bA.cell 3 rfl
  have bA_l := bA.lt
  have bB_0 := bB.cell 0 rfl
  have bB_1 := bB.cell 1 rfl
  have bB_2 := bB.cell 2 rfl
  have bB_3 := bB.cell 3 rfl
  have bB_l := bB.lt
  have bR_0 := bR.cell 0 rfl
  have bR_1 := bR.cell 1 rfl
  have bR_l := bR.lt
  go_wp2_with fail
  refine (KB.out _).mono ?_
  rintro e w2 ⟨rfl, hb⟩
  replace bA := bA.on hb
  replace bB := bB.on hb
  replace bR := bR.on hb
  replace HB := Lib.hid (bel_end HB.out hb)
  clear hb
  clear bA_0 bA_1 bA_2 bA_3 bA_l bB_0 bB_1 bB_2 bB_3 bB_l bR_0 bR_1 bR_l
  have HB0 := Lib.hid (show w.heap.size + 1 + 1 < w2.heap.size from bR.lt)
  have bA_0 := bA.cell 0 rfl
  have bA_1 := bA.cell 1 rfl
  have bA_2 := bA.cell 2 rfl
  have bA_3 := bA.cell 3 rfl
  have bA_l := bA.lt
  have bB_0 := bB.cell 0 rfl
  have bB_1 := bB.cell 1 rfl
  have bB_2 := bB.cell 2 rfl
  have bB_3 := bB.cell 3 rfl
  have bB_l := bB.lt
  have bR_0 := bR.cell 0 rfl
  have bR_1 := bR.cell 1 rfl
  have bR_l := bR.lt
  go_upto_region 3 with fail
  clear bA_0 bA_1 bA_2 bA_3 bA_l bB_0 bB_1 bB_2 bB_3 bB_l bR_0 bR_1 bR_l
  go_cut [6, 7] (fun s6 s7 wx => TwoP wx s6 s7 X Y M N w2.heap.size ∧ Below w2.heap.size w2 wx)
  case first =>
    have HW : Hid (Below w2.heap.size w2 w2) := Lib.hid (Below.refl _ _)
    obtain ⟨S, hSd⟩ : ∃ S : World → Prop, ∀ w', S w' ↔ (w'.cell? ⟨w.heap.size, 0, none⟩ = some (.int .i64 a1) ∧ w'.cell? ⟨w.heap.size, 1, none⟩ = some (.int .i64 a2) ∧ w'.cell? ⟨w.heap.size, 2, none⟩ = some (.int .i64 a3) ∧ w'.cell? ⟨w.heap.size, 3, none⟩ = some (.int .i64 a4) ∧ w'.cell? ⟨w.heap.size + 1, 0, none⟩ = some (.int .i64 b1) ∧ w'.cell? ⟨w.heap.size + 1, 1, none⟩ = some (.int .i64 b2) ∧ w'.cell? ⟨w.heap.size + 1, 2, none⟩ = some (.int .i64 b3) ∧ w'.cell? ⟨w.heap.size + 1, 3, none⟩ = some (.int .i64 b4)) := ⟨_, fun _ => Iff.rfl⟩
    have HSp : Hid (∀ w' : World, Bk w' (w.heap.size) #[.int .i64 a1, .int .i64 a2, .int .i64 a3, .int .i64 a4] 44 → Bk w' (w.heap.size + 1) #[.int .i64 b1, .int .i64 b2, .int .i64 b3, .int .i64 b4] 44 → S w') := Lib.hid (fun w' bA bB => (hSd w').2 ⟨bA.cell 0 rfl, bA.cell 1 rfl, bA.cell 2 rfl, bA.cell 3 rfl, bB.cell 0 rfl, bB.cell 1 rfl, bB.cell 2 rfl, bB.cell 3 rfl⟩)
    have HSd := Lib.hid hSd
    clear hSd
    refine wp_region_held_drew (S := S) (by kernel_rfl) ?_ (fun hH => ?_)
    · exact (HSp.out _ bA bB : S (World.drew w2))
    clear hH
    generalize hX : World.drew w2 = V0
    replace bA : Bk V0 (w.heap.size) #[.int .i64 a1, .int .i64 a2, .int .i64 a3, .int .i64 a4] 44 := by rw [← hX]; exact bA
    replace bB : Bk V0 (w.heap.size + 1) #[.int .i64 b1, .int .i64 b2, .int .i64 b3, .int .i64 b4] 44 := by rw [← hX]; exact bB
    have hb : Below w2.heap.size w2 V0 := by rw [← hX]; exact (Below.refl _ _).drew
    clear hX
    replace HW := Lib.hid (bel_end HW.out hb)
    clear hb
    have hS := HSp.out _ bA bB
    refine wpAnyH_take (i := 0) (oi := { dst := some 17, op := Go.Op.fieldAddr 44 (Go.Operand.tmp 3) 0, type := 0, pos := "l12_bearings.go:110", after := #[], guard := none }) (v := ?_) rfl (by kernel_rfl) (by kernel_rfl) (by kernel_rfl) (fun _ _ _ h => h) (Or.inl ⟨by rfl, ?_⟩) hS ?_
    rotate_left
    · (intro w hSw; have hSw := (HSd.out w).1 hSw; go_split_ands; go_simp) <;> with_reducible rfl
    clear hS
    try simp only [Act.put, List.setIfInBounds_toArray, List.set_cons_zero, List.set_cons_succ]
    have hS := HSp.out _ bA bB
    refine wpAnyH_take (i := 1) (oi := { dst := some 18, op := Go.Op.load 25 (Go.Operand.tmp 17), type := 25, pos := "l12_bearings.go:110", after := #[{ on := 0, ground := Go.Ground.data }], guard := none }) (v := ?_) rfl (by kernel_rfl) (by kernel_rfl) (by kernel_rfl) (fun _ _ _ h => h) (Or.inl ⟨by rfl, ?_⟩) hS ?_
    rotate_left
    · (intro w hSw; have hSw := (HSd.out w).1 hSw; go_split_ands; go_simp) <;> with_reducible rfl
    clear hS
    try simp only [Act.put, List.setIfInBounds_toArray, List.set_cons_zero, List.set_cons_succ]
    have hS := HSp.out _ bA bB
    refine wpAnyH_take (i := 2) (oi := { dst := some 19, op := Go.Op.fieldAddr 44 (Go.Operand.tmp 2) 0, type := 0, pos := "l12_bearings.go:110", after := #[], guard := none }) (v := ?_) rfl (by kernel_rfl) (by kernel_rfl) (by kernel_rfl) (fun _ _ _ h => h) (Or.inl ⟨by rfl, ?_⟩) hS ?_
    rotate_left
    · (intro w hSw; have hSw := (HSd.out w).1 hSw; go_split_ands; go_simp) <;> with_reducible rfl
    clear hS
    try simp only [Act.put, List.setIfInBounds_toArray, List.set_cons_zero, List.set_cons_succ]
    have hS := HSp.out _ bA bB
    refine wpAnyH_take (i := 3) (oi := { dst := some 20, op := Go.Op.load 25 (Go.Operand.tmp 19), type := 25, pos := "l12_bearings.go:110", after := #[{ on := 2, ground := Go.Ground.data }], guard := none }) (v := ?_) rfl (by kernel_rfl) (by kernel_rfl) (by kernel_rfl) (fun _ _ _ h => h) (Or.inl ⟨by rfl, ?_⟩) hS ?_
    rotate_left
    · (intro w hSw; have hSw := (HSd.out w).1 hSw; go_split_ands; go_simp) <;> with_reducible rfl
    clear hS
    try simp only [Act.put, List.setIfInBounds_toArray, List.set_cons_zero, List.set_cons_succ]
    have hS := HSp.out _ bA bB
    refine wpAnyH_take (i := 5) (oi := { dst := some 22, op := Go.Op.fieldAddr 44 (Go.Operand.tmp 3) 1, type := 0, pos := "l12_bearings.go:110", after := #[], guard := none }) (v := ?_) rfl (by kernel_rfl) (by kernel_rfl) (by kernel_rfl) (fun _ _ _ h => h) (Or.inl ⟨by rfl, ?_⟩) hS ?_
    rotate_left
    · (intro w hSw; have hSw := (HSd.out w).1 hSw; go_split_ands; go_simp) <;> with_reducible rfl
    clear hS
    try simp only [Act.put, List.setIfInBounds_toArray, List.set_cons_zero, List.set_cons_succ]
    have hS := HSp.out _ bA bB
    refine wpAnyH_take (i := 6) (oi := { dst := some 23, op := Go.Op.load 25 (Go.Operand.tmp 22), type := 25, pos := "l12_bearings.go:110", after := #[{ on := 5, ground := Go.Ground.data }], guard := none }) (v := ?_) rfl (by kernel_rfl) (by kernel_rfl) (by kernel_rfl) (fun _ _ _ h => h) (Or.inl ⟨by rfl, ?_⟩) hS ?_
    rotate_left
    · (intro w hSw; have hSw := (HSd.out w).1 hSw; go_split_ands; go_simp) <;> with_reducible rfl
    clear hS
    try simp only [Act.put, List.setIfInBounds_toArray, List.set_cons_zero, List.set_cons_succ]
    have hS := HSp.out _ bA bB
    refine wpAnyH_take (i := 7) (oi := { dst := some 24, op := Go.Op.fieldAddr 44 (Go.Operand.tmp 2) 1, type := 0, pos := "l12_bearings.go:110", after := #[], guard := none }) (v := ?_) rfl (by kernel_rfl) (by kernel_rfl) (by kernel_rfl) (fun _ _ _ h => h) (Or.inl ⟨by rfl, ?_⟩) hS ?_
    rotate_left
    · (intro w hSw; have hSw := (HSd.out w).1 hSw; go_split_ands; go_simp) <;> with_reducible rfl
    clear hS
    try simp only [Act.put, List.setIfInBounds_toArray, List.set_cons_zero, List.set_cons_succ]
    have hS := HSp.out _ bA bB
    refine wpAnyH_take (i := 8) (oi := { dst := some 25, op := Go.Op.load 25 (Go.Operand.tmp 24), type := 25, pos := "l12_bearings.go:110", after := #[{ on := 7, ground := Go.Ground.data }], guard := none }) (v := ?_) rfl (by kernel_rfl) (by kernel_rfl) (by kernel_rfl) (fun _ _ _ h => h) (Or.inl ⟨by rfl, ?_⟩) hS ?_
    rotate_left
    · (intro w hSw; have hSw := (HSd.out w).1 hSw; go_split_ands; go_simp) <;> with_reducible rfl
    clear hS
    try simp only [Act.put, List.setIfInBounds_toArray, List.set_cons_zero, List.set_cons_succ]
    refine wpAnyH_ready (rs := [4, 10, 11]) (by decide +kernel) (by simp) ?_
    refine AllReadyH.cons (o := { dst := some 21, op := Go.Op.call { callee := Go.Callee.value (Go.Operand.func 51), args := #[Go.Operand.tmp 18, Go.Operand.tmp 20], argTypes := #[25, 25] }, type := 25, pos := "l12_bearings.go:110", after := #[{ on := 1, ground := Go.Ground.data }, { on := 3, ground := Go.Ground.data }], guard := none }) rfl (fun Kn hK => ?_) ?_
    first | go_at_call 51 | (go_simp; go_at_call 51)
    (with_reducible refine Calls.mono (KL1.out  _) ?_)
    rintro e V1 ⟨rfl, hb⟩
    try dsimp only
    try simp only [Act.put, List.setIfInBounds_toArray, List.set_cons_zero, List.set_cons_succ]
    replace bA := bA.on hb
    replace bB := bB.on hb
    replace HW := Lib.hid (bel_end HW.out hb)
    clear hb
    refine hK.out _ _ (HSp.out _ bA bB) (fun _ => ?_)
    clear hK Kn
    rotate_left
    refine AllReadyH.cons (o := { dst := some 6, op := Go.Op.alloc 25, type := 0, pos := "l12_bearings.go:110", after := #[], guard := none }) rfl (fun Kn hK => ?_) ?_
    go_simp
    generalize hX : World.alloc V0 _ = V1
    obtain ⟨g10, hg⟩ : ∃ g, g = V0.heap.size := ⟨_, rfl⟩
    have bn10 : Bk V1 g10 #[.int .i64 0, .int .i64 0] 25 := by rw [← hX]; exact Bk.new' hg
    have le10 : w2.heap.size ≤ g10 := by rw [hg]; exact HW.out.size
    have nebA_10 : w.heap.size ≠ g10 := by have := bA.lt; omega
    have nebB_10 : w.heap.size + 1 ≠ g10 := by have := bB.lt; omega
    try rw [← hg]
    have hb : Below V0.heap.size V0 V1 := by rw [← hX]; exact (Below.refl _ _).alloc (Nat.le_refl _) _
    clear hX hg
    replace bA := bA.on hb
    replace bB := bB.on hb
    replace HW := Lib.hid (bel_end HW.out hb)
    clear hb
    refine hK.out _ _ (HSp.out _ bA bB) (fun _ => ?_)
    clear hK Kn
    rotate_left
    refine AllReadyH.cons (o := { dst := some 7, op := Go.Op.alloc 25, type := 0, pos := "l12_bearings.go:110", after := #[], guard := none }) rfl (fun Kn hK => ?_) AllReadyH.nil
    go_simp
    generalize hX : World.alloc V0 _ = V1
    obtain ⟨g11, hg⟩ : ∃ g, g = V0.heap.size := ⟨_, rfl⟩
    have bn11 : Bk V1 g11 #[.int .i64 0, .int .i64 0] 25 := by rw [← hX]; exact Bk.new' hg
    have le11 : w2.heap.size ≤ g11 := by rw [hg]; exact HW.out.size
    have nebA_11 : w.heap.size ≠ g11 := by have := bA.lt; omega
    have nebB_11 : w.heap.size + 1 ≠ g11 := by have := bB.lt; omega
    try rw [← hg]
    have hb : Below V0.heap.size V0 V1 := by rw [← hX]; exact (Below.refl _ _).alloc (Nat.le_refl _) _
    clear hX hg
    replace bA := bA.on hb
    replace bB := bB.on hb
    replace HW := Lib.hid (bel_end HW.out hb)
    clear hb
    refine hK.out _ _ (HSp.out _ bA bB) (fun _ => ?_)
    clear hK Kn
    all_goals
      first
      | (refine wpAnyH_ready (rs := [9, 10, 11]) (by decide +kernel) (by simp) ?_
         refine AllReadyH.cons (o := { dst := some 26, op := Go.Op.call { callee := Go.Callee.value (Go.Operand.func 51), args := #[Go.Operand.tmp 23, Go.Operand.tmp 25], argTypes := #[25, 25] }, type := 25, pos := "l12_bearings.go:110", after := #[{ on := 6, ground := Go.Ground.data }, { on := 8, ground := Go.Ground.data }, { on := 4, ground := Go.Ground.chain }], guard := none }) rfl (fun Kn hK => ?_) ?_
         first | go_at_call 51 | (go_simp; go_at_call 51)
         (with_reducible refine Calls.mono (KL2.out  _) ?_)
         rintro e V2 ⟨rfl, hb⟩
         try dsimp only
         try simp only [Act.put, List.setIfInBounds_toArray, List.set_cons_zero, List.set_cons_succ]
         replace bA := bA.on hb
         replace bB := bB.on hb
         replace HW := Lib.hid (bel_end HW.out hb)
         clear hb
         refine hK.out _ _ (HSp.out _ bA bB) (fun _ => ?_)
         clear hK Kn
         rotate_left
         refine AllReadyH.cons (o := { dst := some 6, op := Go.Op.alloc 25, type := 0, pos := "l12_bearings.go:110", after := #[], guard := none }) rfl (fun Kn hK => ?_) ?_
         go_simp
         generalize hX : World.alloc V1 _ = V2
         obtain ⟨g10, hg⟩ : ∃ g, g = V1.heap.size := ⟨_, rfl⟩
         have bn10 : Bk V2 g10 #[.int .i64 0, .int .i64 0] 25 := by rw [← hX]; exact Bk.new' hg
         have le10 : w2.heap.size ≤ g10 := by rw [hg]; exact HW.out.size
         have nebA_10 : w.heap.size ≠ g10 := by have := bA.lt; omega
         have nebB_10 : w.heap.size + 1 ≠ g10 := by have := bB.lt; omega
         try rw [← hg]
         have hb : Below V1.heap.size V1 V2 := by rw [← hX]; exact (Below.refl _ _).alloc (Nat.le_refl _) _
         clear hX hg
         replace bA := bA.on hb
         replace bB := bB.on hb
         replace HW := Lib.hid (bel_end HW.out hb)
         clear hb
         refine hK.out _ _ (HSp.out _ bA bB) (fun _ => ?_)
         clear hK Kn
         rotate_left
         refine AllReadyH.cons (o := { dst := some 7, op := Go.Op.alloc 25, type := 0, pos := "l12_bearings.go:110", after := #[], guard := none }) rfl (fun Kn hK => ?_) AllReadyH.nil
         go_simp
         generalize hX : World.alloc V1 _ = V2
         obtain ⟨g11, hg⟩ : ∃ g, g = V1.heap.size := ⟨_, rfl⟩
         have bn11 : Bk V2 g11 #[.int .i64 0, .int .i64 0] 25 := by rw [← hX]; exact Bk.new' hg
         have le11 : w2.heap.size ≤ g11 := by rw [hg]; exact HW.out.size
         have nebA_11 : w.heap.size ≠ g11 := by have := bA.lt; omega
         have nebB_11 : w.heap.size + 1 ≠ g11 := by have := bB.lt; omega
         try rw [← hg]
         have hb : Below V1.heap.size V1 V2 := by rw [← hX]; exact (Below.refl _ _).alloc (Nat.le_refl _) _
         clear hX hg
         replace bA := bA.on hb
         replace bB := bB.on hb
         replace HW := Lib.hid (bel_end HW.out hb)
         clear hb
         refine hK.out _ _ (HSp.out _ bA bB) (fun _ => ?_)
         clear hK Kn)
      | (refine wpAnyH_ready (rs := [4, 11]) (by decide +kernel) (by simp) ?_
         refine AllReadyH.cons (o := { dst := some 21, op := Go.Op.call { callee := Go.Callee.value (Go.Operand.func 51), args := #[Go.Operand.tmp 18, Go.Operand.tmp 20], argTypes := #[25, 25] }, type := 25, pos := "l12_bearings.go:110", after := #[{ on := 1, ground := Go.Ground.data }, { on := 3, ground := Go.Ground.data }], guard := none }) rfl (fun Kn hK => ?_) ?_
         first | go_at_call 51 | (go_simp; go_at_call 51)
         (with_reducible refine Calls.mono (KL1.out  _) ?_)
         rintro e V2 ⟨rfl, hb⟩
         try dsimp only
         try simp only [Act.put, List.setIfInBounds_toArray, List.set_cons_zero, List.set_cons_succ]
         replace bA := bA.on hb
         replace bB := bB.on hb
         replace bn10 := bn10.on hb
         replace HW := Lib.hid (bel_end HW.out hb)
         clear hb
         refine hK.out _ _ (HSp.out _ bA bB) (fun _ => ?_)
         clear hK Kn
         rotate_left
         refine AllReadyH.cons (o := { dst := some 7, op := Go.Op.alloc 25, type := 0, pos := "l12_bearings.go:110", after := #[], guard := none }) rfl (fun Kn hK => ?_) AllReadyH.nil
         go_simp
         generalize hX : World.alloc V1 _ = V2
         obtain ⟨g11, hg⟩ : ∃ g, g = V1.heap.size := ⟨_, rfl⟩
         have bn11 : Bk V2 g11 #[.int .i64 0, .int .i64 0] 25 := by rw [← hX]; exact Bk.new' hg
         have le11 : w2.heap.size ≤ g11 := by rw [hg]; exact HW.out.size
         have nebA_11 : w.heap.size ≠ g11 := by have := bA.lt; omega
         have nebB_11 : w.heap.size + 1 ≠ g11 := by have := bB.lt; omega
         have ne10_11 : g10 ≠ g11 := by have := bn10.lt; omega
         try rw [← hg]
         have hb : Below V1.heap.size V1 V2 := by rw [← hX]; exact (Below.refl _ _).alloc (Nat.le_refl _) _
         clear hX hg
         replace bA := bA.on hb
         replace bB := bB.on hb
         replace bn10 := bn10.on hb
         replace HW := Lib.hid (bel_end HW.out hb)
         clear hb
         refine hK.out _ _ (HSp.out _ bA bB) (fun _ => ?_)
         clear hK Kn)
      | (refine wpAnyH_ready (rs := [4, 10]) (by decide +kernel) (by simp) ?_
         refine AllReadyH.cons (o := { dst := some 21, op := Go.Op.call { callee := Go.Callee.value (Go.Operand.func 51), args := #[Go.Operand.tmp 18, Go.Operand.tmp 20], argTypes := #[25, 25] }, type := 25, pos := "l12_bearings.go:110", after := #[{ on := 1, ground := Go.Ground.data }, { on := 3, ground := Go.Ground.data }], guard := none }) rfl (fun Kn hK => ?_) ?_
         first | go_at_call 51 | (go_simp; go_at_call 51)
         (with_reducible refine Calls.mono (KL1.out  _) ?_)
         rintro e V2 ⟨rfl, hb⟩
         try dsimp only
         try simp only [Act.put, List.setIfInBounds_toArray, List.set_cons_zero, List.set_cons_succ]
         replace bA := bA.on hb
         replace bB := bB.on hb
         replace bn11 := bn11.on hb
         replace HW := Lib.hid (bel_end HW.out hb)
         clear hb
         refine hK.out _ _ (HSp.out _ bA bB) (fun _ => ?_)
         clear hK Kn
         rotate_left
         refine AllReadyH.cons (o := { dst := some 6, op := Go.Op.alloc 25, type := 0, pos := "l12_bearings.go:110", after := #[], guard := none }) rfl (fun Kn hK => ?_) AllReadyH.nil
         go_simp
         generalize hX : World.alloc V1 _ = V2
         obtain ⟨g10, hg⟩ : ∃ g, g = V1.heap.size := ⟨_, rfl⟩
         have bn10 : Bk V2 g10 #[.int .i64 0, .int .i64 0] 25 := by rw [← hX]; exact Bk.new' hg
         have le10 : w2.heap.size ≤ g10 := by rw [hg]; exact HW.out.size
         have nebA_10 : w.heap.size ≠ g10 := by have := bA.lt; omega
         have nebB_10 : w.heap.size + 1 ≠ g10 := by have := bB.lt; omega
         have ne10_11 : g10 ≠ g11 := by have := bn11.lt; omega
         try rw [← hg]
         have hb : Below V1.heap.size V1 V2 := by rw [← hX]; exact (Below.refl _ _).alloc (Nat.le_refl _) _
         clear hX hg
         replace bA := bA.on hb
         replace bB := bB.on hb
         replace bn11 := bn11.on hb
         replace HW := Lib.hid (bel_end HW.out hb)
         clear hb
         refine hK.out _ _ (HSp.out _ bA bB) (fun _ => ?_)
         clear hK Kn)
    all_goals
      first
      | (refine wpAnyH_ready (rs := [10, 11]) (by decide +kernel) (by simp) ?_
         refine AllReadyH.cons (o := { dst := some 6, op := Go.Op.alloc 25, type := 0, pos := "l12_bearings.go:110", after := #[], guard := none }) rfl (fun Kn hK => ?_) ?_
         go_simp
         generalize hX : World.alloc V2 _ = V3
         obtain ⟨g10, hg⟩ : ∃ g, g = V2.heap.size := ⟨_, rfl⟩
         have bn10 : Bk V3 g10 #[.int .i64 0, .int .i64 0] 25 := by rw [← hX]; exact Bk.new' hg
         have le10 : w2.heap.size ≤ g10 := by rw [hg]; exact HW.out.size
         have nebA_10 : w.heap.size ≠ g10 := by have := bA.lt; omega
         have nebB_10 : w.heap.size + 1 ≠ g10 := by have := bB.lt; omega
         try rw [← hg]
         have hb : Below V2.heap.size V2 V3 := by rw [← hX]; exact (Below.refl _ _).alloc (Nat.le_refl _) _
         clear hX hg
         replace bA := bA.on hb
         replace bB := bB.on hb
         replace HW := Lib.hid (bel_end HW.out hb)
         clear hb
         refine hK.out _ _ (HSp.out _ bA bB) (fun _ => ?_)
         clear hK Kn
         rotate_left
         refine AllReadyH.cons (o := { dst := some 7, op := Go.Op.alloc 25, type := 0, pos := "l12_bearings.go:110", after := #[], guard := none }) rfl (fun Kn hK => ?_) AllReadyH.nil
         go_simp
         generalize hX : World.alloc V2 _ = V3
         obtain ⟨g11, hg⟩ : ∃ g, g = V2.heap.size := ⟨_, rfl⟩
         have bn11 : Bk V3 g11 #[.int .i64 0, .int .i64 0] 25 := by rw [← hX]; exact Bk.new' hg
         have le11 : w2.heap.size ≤ g11 := by rw [hg]; exact HW.out.size
         have nebA_11 : w.heap.size ≠ g11 := by have := bA.lt; omega
         have nebB_11 : w.heap.size + 1 ≠ g11 := by have := bB.lt; omega
         try rw [← hg]
         have hb : Below V2.heap.size V2 V3 := by rw [← hX]; exact (Below.refl _ _).alloc (Nat.le_refl _) _
         clear hX hg
         replace bA := bA.on hb
         replace bB := bB.on hb
         replace HW := Lib.hid (bel_end HW.out hb)
         clear hb
         refine hK.out _ _ (HSp.out _ bA bB) (fun _ => ?_)
         clear hK Kn)
      | (refine wpAnyH_ready (rs := [9, 11]) (by decide +kernel) (by simp) ?_
         refine AllReadyH.cons (o := { dst := some 26, op := Go.Op.call { callee := Go.Callee.value (Go.Operand.func 51), args := #[Go.Operand.tmp 23, Go.Operand.tmp 25], argTypes := #[25, 25] }, type := 25, pos := "l12_bearings.go:110", after := #[{ on := 6, ground := Go.Ground.data }, { on := 8, ground := Go.Ground.data }, { on := 4, ground := Go.Ground.chain }], guard := none }) rfl (fun Kn hK => ?_) ?_
         first | go_at_call 51 | (go_simp; go_at_call 51)
         (with_reducible refine Calls.mono (KL2.out  _) ?_)
         rintro e V3 ⟨rfl, hb⟩
         try dsimp only
         try simp only [Act.put, List.setIfInBounds_toArray, List.set_cons_zero, List.set_cons_succ]
         replace bA := bA.on hb
         replace bB := bB.on hb
         replace bn10 := bn10.on hb
         replace HW := Lib.hid (bel_end HW.out hb)
         clear hb
         refine hK.out _ _ (HSp.out _ bA bB) (fun _ => ?_)
         clear hK Kn
         rotate_left
         refine AllReadyH.cons (o := { dst := some 7, op := Go.Op.alloc 25, type := 0, pos := "l12_bearings.go:110", after := #[], guard := none }) rfl (fun Kn hK => ?_) AllReadyH.nil
         go_simp
         generalize hX : World.alloc V2 _ = V3
         obtain ⟨g11, hg⟩ : ∃ g, g = V2.heap.size := ⟨_, rfl⟩
         have bn11 : Bk V3 g11 #[.int .i64 0, .int .i64 0] 25 := by rw [← hX]; exact Bk.new' hg
         have le11 : w2.heap.size ≤ g11 := by rw [hg]; exact HW.out.size
         have nebA_11 : w.heap.size ≠ g11 := by have := bA.lt; omega
         have nebB_11 : w.heap.size + 1 ≠ g11 := by have := bB.lt; omega
         have ne10_11 : g10 ≠ g11 := by have := bn10.lt; omega
         try rw [← hg]
         have hb : Below V2.heap.size V2 V3 := by rw [← hX]; exact (Below.refl _ _).alloc (Nat.le_refl _) _
         clear hX hg
         replace bA := bA.on hb
         replace bB := bB.on hb
         replace bn10 := bn10.on hb
         replace HW := Lib.hid (bel_end HW.out hb)
         clear hb
         refine hK.out _ _ (HSp.out _ bA bB) (fun _ => ?_)
         clear hK Kn)
      | (refine wpAnyH_ready (rs := [9, 10]) (by decide +kernel) (by simp) ?_
         refine AllReadyH.cons (o := { dst := some 26, op := Go.Op.call { callee := Go.Callee.value (Go.Operand.func 51), args := #[Go.Operand.tmp 23, Go.Operand.tmp 25], argTypes := #[25, 25] }, type := 25, pos := "l12_bearings.go:110", after := #[{ on := 6, ground := Go.Ground.data }, { on := 8, ground := Go.Ground.data }, { on := 4, ground := Go.Ground.chain }], guard := none }) rfl (fun Kn hK => ?_) ?_
         first | go_at_call 51 | (go_simp; go_at_call 51)
         (with_reducible refine Calls.mono (KL2.out  _) ?_)
         rintro e V3 ⟨rfl, hb⟩
         try dsimp only
         try simp only [Act.put, List.setIfInBounds_toArray, List.set_cons_zero, List.set_cons_succ]
         replace bA := bA.on hb
         replace bB := bB.on hb
         replace bn11 := bn11.on hb
         replace HW := Lib.hid (bel_end HW.out hb)
         clear hb
         refine hK.out _ _ (HSp.out _ bA bB) (fun _ => ?_)
         clear hK Kn
         rotate_left
         refine AllReadyH.cons (o := { dst := some 6, op := Go.Op.alloc 25, type := 0, pos := "l12_bearings.go:110", after := #[], guard := none }) rfl (fun Kn hK => ?_) AllReadyH.nil
         go_simp
         generalize hX : World.alloc V2 _ = V3
         obtain ⟨g10, hg⟩ : ∃ g, g = V2.heap.size := ⟨_, rfl⟩
         have bn10 : Bk V3 g10 #[.int .i64 0, .int .i64 0] 25 := by rw [← hX]; exact Bk.new' hg
         have le10 : w2.heap.size ≤ g10 := by rw [hg]; exact HW.out.size
         have nebA_10 : w.heap.size ≠ g10 := by have := bA.lt; omega
         have nebB_10 : w.heap.size + 1 ≠ g10 := by have := bB.lt; omega
         have ne10_11 : g10 ≠ g11 := by have := bn11.lt; omega
         try rw [← hg]
         have hb : Below V2.heap.size V2 V3 := by rw [← hX]; exact (Below.refl _ _).alloc (Nat.le_refl _) _
         clear hX hg
         replace bA := bA.on hb
         replace bB := bB.on hb
         replace bn11 := bn11.on hb
         replace HW := Lib.hid (bel_end HW.out hb)
         clear hb
         refine hK.out _ _ (HSp.out _ bA bB) (fun _ => ?_)
         clear hK Kn)
      | (refine wpAnyH_ready (rs := [4]) (by decide +kernel) (by simp) ?_
         refine AllReadyH.cons (o := { dst := some 21, op := Go.Op.call { callee := Go.Callee.value (Go.Operand.func 51), args := #[Go.Operand.tmp 18, Go.Operand.tmp 20], argTypes := #[25, 25] }, type := 25, pos := "l12_bearings.go:110", after := #[{ on := 1, ground := Go.Ground.data }, { on := 3, ground := Go.Ground.data }], guard := none }) rfl (fun Kn hK => ?_) AllReadyH.nil
         first | go_at_call 51 | (go_simp; go_at_call 51)
         (with_reducible refine Calls.mono (KL1.out  _) ?_)
         rintro e V3 ⟨rfl, hb⟩
         try dsimp only
         try simp only [Act.put, List.setIfInBounds_toArray, List.set_cons_zero, List.set_cons_succ]
         replace bA := bA.on hb
         replace bB := bB.on hb
         replace bn10 := bn10.on hb
         replace bn11 := bn11.on hb
         replace HW := Lib.hid (bel_end HW.out hb)
         clear hb
         refine hK.out _ _ (HSp.out _ bA bB) (fun _ => ?_)
         clear hK Kn)
    all_goals
      first
      | (refine wpAnyH_ready (rs := [11]) (by decide +kernel) (by simp) ?_
         refine AllReadyH.cons (o := { dst := some 7, op := Go.Op.alloc 25, type := 0, pos := "l12_bearings.go:110", after := #[], guard := none }) rfl (fun Kn hK => ?_) AllReadyH.nil
         go_simp
         generalize hX : World.alloc V3 _ = V4
         obtain ⟨g11, hg⟩ : ∃ g, g = V3.heap.size := ⟨_, rfl⟩
         have bn11 : Bk V4 g11 #[.int .i64 0, .int .i64 0] 25 := by rw [← hX]; exact Bk.new' hg
         have le11 : w2.heap.size ≤ g11 := by rw [hg]; exact HW.out.size
         have nebA_11 : w.heap.size ≠ g11 := by have := bA.lt; omega
         have nebB_11 : w.heap.size + 1 ≠ g11 := by have := bB.lt; omega
         have ne10_11 : g10 ≠ g11 := by have := bn10.lt; omega
         try rw [← hg]
         have hb : Below V3.heap.size V3 V4 := by rw [← hX]; exact (Below.refl _ _).alloc (Nat.le_refl _) _
         clear hX hg
         replace bA := bA.on hb
         replace bB := bB.on hb
         replace bn10 := bn10.on hb
         replace HW := Lib.hid (bel_end HW.out hb)
         clear hb
         refine hK.out _ _ (HSp.out _ bA bB) (fun _ => ?_)
         clear hK Kn)
      | (refine wpAnyH_ready (rs := [10]) (by decide +kernel) (by simp) ?_
         refine AllReadyH.cons (o := { dst := some 6, op := Go.Op.alloc 25, type := 0, pos := "l12_bearings.go:110", after := #[], guard := none }) rfl (fun Kn hK => ?_) AllReadyH.nil
         go_simp
         generalize hX : World.alloc V3 _ = V4
         obtain ⟨g10, hg⟩ : ∃ g, g = V3.heap.size := ⟨_, rfl⟩
         have bn10 : Bk V4 g10 #[.int .i64 0, .int .i64 0] 25 := by rw [← hX]; exact Bk.new' hg
         have le10 : w2.heap.size ≤ g10 := by rw [hg]; exact HW.out.size
         have nebA_10 : w.heap.size ≠ g10 := by have := bA.lt; omega
         have nebB_10 : w.heap.size + 1 ≠ g10 := by have := bB.lt; omega
         have ne10_11 : g10 ≠ g11 := by have := bn11.lt; omega
         try rw [← hg]
         have hb : Below V3.heap.size V3 V4 := by rw [← hX]; exact (Below.refl _ _).alloc (Nat.le_refl _) _
         clear hX hg
         replace bA := bA.on hb
         replace bB := bB.on hb
         replace bn11 := bn11.on hb
         replace HW := Lib.hid (bel_end HW.out hb)
         clear hb
         refine hK.out _ _ (HSp.out _ bA bB) (fun _ => ?_)
         clear hK Kn)
      | (refine wpAnyH_ready (rs := [9]) (by decide +kernel) (by simp) ?_
         refine AllReadyH.cons (o := { dst := some 26, op := Go.Op.call { callee := Go.Callee.value (Go.Operand.func 51), args := #[Go.Operand.tmp 23, Go.Operand.tmp 25], argTypes := #[25, 25] }, type := 25, pos := "l12_bearings.go:110", after := #[{ on := 6, ground := Go.Ground.data }, { on := 8, ground := Go.Ground.data }, { on := 4, ground := Go.Ground.chain }], guard := none }) rfl (fun Kn hK => ?_) AllReadyH.nil
         first | go_at_call 51 | (go_simp; go_at_call 51)
         (with_reducible refine Calls.mono (KL2.out  _) ?_)
         rintro e V4 ⟨rfl, hb⟩
         try dsimp only
         try simp only [Act.put, List.setIfInBounds_toArray, List.set_cons_zero, List.set_cons_succ]
         replace bA := bA.on hb
         replace bB := bB.on hb
         replace bn10 := bn10.on hb
         replace bn11 := bn11.on hb
         replace HW := Lib.hid (bel_end HW.out hb)
         clear hb
         refine hK.out _ _ (HSp.out _ bA bB) (fun _ => ?_)
         clear hK Kn)
    all_goals
      refine wpAnyH_ready (rs := [12]) (by decide +kernel) (by simp) ?_
      refine AllReadyH.cons (o := { dst := none, op := Go.Op.store 25 (Go.Operand.tmp 6) (Go.Operand.tmp 21), type := 0, pos := "l12_bearings.go:110", after := #[{ on := 10, ground := Go.Ground.data }, { on := 4, ground := Go.Ground.data }, { on := 9, ground := Go.Ground.chain }, { on := 0, ground := Go.Ground.phase }, { on := 1, ground := Go.Ground.phase }, { on := 2, ground := Go.Ground.phase }, { on := 3, ground := Go.Ground.phase }, { on := 4, ground := Go.Ground.phase }, { on := 5, ground := Go.Ground.textOnly Go.Departure.lateStores }, { on := 6, ground := Go.Ground.textOnly Go.Departure.lateStores }, { on := 7, ground := Go.Ground.textOnly Go.Departure.lateStores }, { on := 8, ground := Go.Ground.textOnly Go.Departure.lateStores }, { on := 9, ground := Go.Ground.textOnly Go.Departure.lateStoresUnsure }, { on := 10, ground := Go.Ground.phase }, { on := 11, ground := Go.Ground.phase }], guard := none }) rfl (fun Kn hK => ?_) AllReadyH.nil
      have bn10_0 := bn10.cell 0 rfl
      have bn10_1 := bn10.cell 1 rfl
      have bn10_f0 := bn10.frozen 0
      have bn10_f1 := bn10.frozen 1
      have bn10_l := bn10.lt
      go_simp
      clear bn10_0 bn10_f0 bn10_1 bn10_f1 bn10_l
      generalize hX : World.setCell _ _ _ = V5
      have hb : Below w2.heap.size w2 V5 := by rw [← hX]; exact ((HW.out.setCell (p := ⟨g10, 0, none⟩) le10 _).setCell (p := ⟨g10, 1, none⟩) le10 _)
      replace bA : Bk V5 (w.heap.size) #[.int .i64 a1, .int .i64 a2, .int .i64 a3, .int .i64 a4] 44 := by rw [← hX]; exact (Bk.other (Bk.other bA nebA_10 0 _) nebA_10 1 _)
      replace bB : Bk V5 (w.heap.size + 1) #[.int .i64 b1, .int .i64 b2, .int .i64 b3, .int .i64 b4] 44 := by rw [← hX]; exact (Bk.other (Bk.other bB nebB_10 0 _) nebB_10 1 _)
      replace bn11 : Bk V5 (g11) #[.int .i64 0, .int .i64 0] 25 := by rw [← hX]; exact (Bk.other (Bk.other bn11 (Ne.symm ne10_11) 0 _) (Ne.symm ne10_11) 1 _)
      replace bn10 : Bk V5 (g10) #[.int .i64 X, .int .i64 Y] 25 := by rw [← hX]; exact (Bk.set (Bk.set bn10 0 _ rfl) 1 _ rfl)
      clear hX
      replace HW := Lib.hid hb
      clear hb
      refine hK.out _ _ (HSp.out _ bA bB) (fun _ => ?_)
      clear hK Kn
    all_goals
      refine wpAnyH_ready (rs := [13]) (by decide +kernel) (by simp) ?_
      refine AllReadyH.cons (o := { dst := none, op := Go.Op.store 25 (Go.Operand.tmp 7) (Go.Operand.tmp 26), type := 0, pos := "l12_bearings.go:110", after := #[{ on := 11, ground := Go.Ground.data }, { on := 9, ground := Go.Ground.data }, { on := 12, ground := Go.Ground.chain }, { on := 0, ground := Go.Ground.phase }, { on := 1, ground := Go.Ground.phase }, { on := 2, ground := Go.Ground.phase }, { on := 3, ground := Go.Ground.phase }, { on := 4, ground := Go.Ground.phase }, { on := 5, ground := Go.Ground.phase }, { on := 6, ground := Go.Ground.phase }, { on := 7, ground := Go.Ground.phase }, { on := 8, ground := Go.Ground.phase }, { on := 9, ground := Go.Ground.phase }, { on := 10, ground := Go.Ground.phase }, { on := 11, ground := Go.Ground.phase }, { on := 12, ground := Go.Ground.phase }], guard := none }) rfl (fun Kn hK => ?_) AllReadyH.nil
      have bn11_0 := bn11.cell 0 rfl
      have bn11_1 := bn11.cell 1 rfl
      have bn11_f0 := bn11.frozen 0
      have bn11_f1 := bn11.frozen 1
      have bn11_l := bn11.lt
      go_simp
      clear bn11_0 bn11_f0 bn11_1 bn11_f1 bn11_l
      generalize hX : World.setCell _ _ _ = V6
      have hb : Below w2.heap.size w2 V6 := by rw [← hX]; exact ((HW.out.setCell (p := ⟨g11, 0, none⟩) le11 _).setCell (p := ⟨g11, 1, none⟩) le11 _)
      replace bA : Bk V6 (w.heap.size) #[.int .i64 a1, .int .i64 a2, .int .i64 a3, .int .i64 a4] 44 := by rw [← hX]; exact (Bk.other (Bk.other bA nebA_11 0 _) nebA_11 1 _)
      replace bB : Bk V6 (w.heap.size + 1) #[.int .i64 b1, .int .i64 b2, .int .i64 b3, .int .i64 b4] 44 := by rw [← hX]; exact (Bk.other (Bk.other bB nebB_11 0 _) nebB_11 1 _)
      replace bn10 : Bk V6 (g10) #[.int .i64 X, .int .i64 Y] 25 := by rw [← hX]; exact (Bk.other (Bk.other bn10 ne10_11 0 _) ne10_11 1 _)
      replace bn11 : Bk V6 (g11) #[.int .i64 M, .int .i64 N] 25 := by rw [← hX]; exact (Bk.set (Bk.set bn11 0 _ rfl) 1 _ rfl)
      clear hX
      replace HW := Lib.hid hb
      clear hb
      refine hK.out _ _ (HSp.out _ bA bB) (fun _ => ?_)
      clear hK Kn
    all_goals
      refine wpAnyH_done (by kernel_rfl) ?_ _
      go_wp2_with fail
      go_meet
      exact ⟨⟨_, _, rfl, rfl, bn10, bn11, le10, le11⟩, HW.out⟩
  case rest =>
    obtain ⟨hx, hb⟩ := hcut
    replace bA := bA.on hb
    replace bB := bB.on hb
    replace bR := bR.on hb
    replace HB := Lib.hid (bel_end HB.out hb)
    clear hb
    obtain ⟨g1, g2, rfl, rfl, b_1, b_2, hg1, hg2⟩ := hx
    have ne1_bR : g1 ≠ w.heap.size + 1 + 1 := by have := HB0.out; omega
    have ne2_bR : g2 ≠ w.heap.size + 1 + 1 := by have := HB0.out; omega
    clear bA bB
    by_cases hx : M = 0
    case pos =>
      subst hx
      by_cases hy : N = 0
      case pos =>
        subst hy
        have HT : Hid (ctR a1 a2 a3 a4 b1 b2 b3 b4 = (0, 0, 5)) := Lib.hid (by rw [HT0.out]; unfold ctT; exact if_pos ⟨rfl, rfl⟩)
        have bR_0 := bR.cell 0 rfl
        have bR_1 := bR.cell 1 rfl
        have bR_l := bR.lt
        have b_1_0 := b_1.cell 0 rfl
        have b_1_1 := b_1.cell 1 rfl
        have b_1_l := b_1.lt
        have b_2_0 := b_2.cell 0 rfl
        have b_2_1 := b_2.cell 1 rfl
        have b_2_l := b_2.lt
        have bR_f0 := bR.frozen 0
        have bR_f1 := bR.frozen 1
        go_wp2
        exact bodyPost_ret (v := .tuple #[.agg #[.int .i64 0, .int .i64 0], .int .i64 5]) (by simp [results, Try.results30, go_sem, bR_0, bR_f0, bR_1, bR_f1, bR_l]) rfl ⟨res3r HT.out, (by repeat (first | exact HB.out | (refine Below.setCell ?_ (by simp <;> omega) _) | (refine Below.alloc ?_ (by simp <;> omega) _) | (refine Below.drew ?_)))⟩
      case neg =>
        have hy2 : (N == 0) = false := by simpa using hy
        have hz : ¬ ((0 : Int) = 0 ∧ N = 0) := fun e => hy e.2
        clear hy
        have HT := Lib.hid (HT1.out hz)
        have KLL := Lib.hid (KL.out hz)
        clear HT1 KL hz
        have bR_0 := bR.cell 0 rfl
        have bR_1 := bR.cell 1 rfl
        have bR_l := bR.lt
        have b_1_0 := b_1.cell 0 rfl
        have b_1_1 := b_1.cell 1 rfl
        have b_1_l := b_1.lt
        have b_2_0 := b_2.cell 0 rfl
        have b_2_1 := b_2.cell 1 rfl
        have b_2_l := b_2.lt
        go_upto_region 6 with fail
        clear bR_0 bR_1 bR_l b_1_0 b_1_1 b_1_l b_2_0 b_2_1 b_2_l
        obtain ⟨S, hSd⟩ : ∃ S : World → Prop, ∀ w', S w' ↔ (w'.cell? ⟨g1, 0, none⟩ = some (.int .i64 X) ∧ w'.cell? ⟨g1, 1, none⟩ = some (.int .i64 Y) ∧ w'.cell? ⟨g2, 0, none⟩ = some (.int .i64 0) ∧ w'.cell? ⟨g2, 1, none⟩ = some (.int .i64 N)) := ⟨_, fun _ => Iff.rfl⟩
        have HSp : Hid (∀ w' : World, Bk w' (g1) #[.int .i64 X, .int .i64 Y] 25 → Bk w' (g2) #[.int .i64 0, .int .i64 N] 25 → S w') := Lib.hid (fun w' b_1 b_2 => (hSd w').2 ⟨b_1.cell 0 rfl, b_1.cell 1 rfl, b_2.cell 0 rfl, b_2.cell 1 rfl⟩)
        have HSd := Lib.hid hSd
        clear hSd
        refine wp_region_held_drew (S := S) (by kernel_rfl) ?_ (fun hH => ?_)
        · exact (HSp.out _ b_1 b_2 : S (World.drew wc))
        clear hH
        generalize hX : World.drew wc = V0
        replace bR : Bk V0 (w.heap.size + 1 + 1) #[.int .i64 0, .int .i64 0] 34 := by rw [← hX]; exact bR
        replace b_1 : Bk V0 (g1) #[.int .i64 X, .int .i64 Y] 25 := by rw [← hX]; exact b_1
        replace b_2 : Bk V0 (g2) #[.int .i64 0, .int .i64 N] 25 := by rw [← hX]; exact b_2
        have hb : Below wc.heap.size wc V0 := by rw [← hX]; exact (Below.refl _ _).drew
        clear hX
        replace HB := Lib.hid (bel_end HB.out hb)
        clear hb
        have hS := HSp.out _ b_1 b_2
        refine wpAnyH_take (i := 0) (oi := { dst := some 31, op := Go.Op.load 25 (Go.Operand.tmp 6), type := 25, pos := "l12_bearings.go:114", after := #[], guard := none }) (v := ?_) rfl (by kernel_rfl) (by kernel_rfl) (by kernel_rfl) (fun _ _ _ h => h) (Or.inl ⟨by rfl, ?_⟩) hS ?_
        rotate_left
        · (intro w hSw; have hSw := (HSd.out w).1 hSw; go_split_ands; go_simp) <;> with_reducible rfl
        clear hS
        try simp only [Act.put, List.setIfInBounds_toArray, List.set_cons_zero, List.set_cons_succ]
        have hS := HSp.out _ b_1 b_2
        refine wpAnyH_take (i := 1) (oi := { dst := some 32, op := Go.Op.load 25 (Go.Operand.tmp 7), type := 25, pos := "l12_bearings.go:114", after := #[], guard := none }) (v := ?_) rfl (by kernel_rfl) (by kernel_rfl) (by kernel_rfl) (fun _ _ _ h => h) (Or.inl ⟨by rfl, ?_⟩) hS ?_
        rotate_left
        · (intro w hSw; have hSw := (HSd.out w).1 hSw; go_split_ands; go_simp) <;> with_reducible rfl
        clear hS
        try simp only [Act.put, List.setIfInBounds_toArray, List.set_cons_zero, List.set_cons_succ]
        have hS := HSp.out _ b_1 b_2
        refine wpAnyH_take (i := 5) (oi := { dst := some 36, op := Go.Op.load 25 (Go.Operand.tmp 7), type := 25, pos := "l12_bearings.go:114", after := #[], guard := none }) (v := ?_) rfl (by kernel_rfl) (by kernel_rfl) (by kernel_rfl) (fun _ _ _ h => h) (Or.inl ⟨by rfl, ?_⟩) hS ?_
        rotate_left
        · (intro w hSw; have hSw := (HSd.out w).1 hSw; go_split_ands; go_simp) <;> with_reducible rfl
        clear hS
        try simp only [Act.put, List.setIfInBounds_toArray, List.set_cons_zero, List.set_cons_succ]
        have hS := HSp.out _ b_1 b_2
        refine wpAnyH_take (i := 6) (oi := { dst := some 37, op := Go.Op.load 25 (Go.Operand.tmp 7), type := 25, pos := "l12_bearings.go:114", after := #[], guard := none }) (v := ?_) rfl (by kernel_rfl) (by kernel_rfl) (by kernel_rfl) (fun _ _ _ h => h) (Or.inl ⟨by rfl, ?_⟩) hS ?_
        rotate_left
        · (intro w hSw; have hSw := (HSd.out w).1 hSw; go_split_ands; go_simp) <;> with_reducible rfl
        clear hS
        try simp only [Act.put, List.setIfInBounds_toArray, List.set_cons_zero, List.set_cons_succ]
        refine wpAnyH_ready (rs := [2]) (by decide +kernel) (by simp) ?_
        refine AllReadyH.cons (o := { dst := some 33, op := Go.Op.call { callee := Go.Callee.value (Go.Operand.func 67), args := #[Go.Operand.tmp 31, Go.Operand.tmp 32], argTypes := #[25, 25] }, type := 2, pos := "l12_bearings.go:114", after := #[{ on := 0, ground := Go.Ground.data }, { on := 1, ground := Go.Ground.data }], guard := none }) rfl (fun Kn hK => ?_) AllReadyH.nil
        first | go_at_call 67 | (go_simp; go_at_call 67)
        (with_reducible refine Calls.mono (K1.out  _) ?_)
        rintro e V1 ⟨rfl, hb⟩
        try dsimp only
        try simp only [Act.put, List.setIfInBounds_toArray, List.set_cons_zero, List.set_cons_succ]
        replace bR := bR.on hb
        replace b_1 := b_1.on hb
        replace b_2 := b_2.on hb
        replace HB := Lib.hid (bel_end HB.out hb)
        clear hb
        refine hK.out _ _ (HSp.out _ b_1 b_2) (fun _ => ?_)
        clear hK Kn
        have hS := HSp.out _ b_1 b_2
        refine wpAnyH_take (i := 3) (oi := { dst := some 34, op := Go.Op.unOp Go.UnOp.neg 2 (Go.Operand.tmp 33), type := 2, pos := "l12_bearings.go:114", after := #[{ on := 2, ground := Go.Ground.data }], guard := none }) (v := ?_) rfl (by kernel_rfl) (by kernel_rfl) (by kernel_rfl) (fun _ _ _ h => h) (Or.inl ⟨by rfl, ?_⟩) hS ?_
        rotate_left
        · (intro w hSw; have hSw := (HSd.out w).1 hSw; go_split_ands; go_simp) <;> with_reducible rfl
        clear hS
        try simp only [Act.put, List.setIfInBounds_toArray, List.set_cons_zero, List.set_cons_succ]
        have hS := HSp.out _ b_1 b_2
        refine wpAnyH_take (i := 4) (oi := { dst := some 35, op := Go.Op.call { callee := Go.Callee.builtin Go.Builtin.max, args := #[Go.Operand.const (Go.Value.int Go.IntKind.i64 0), Go.Operand.tmp 34], argTypes := #[2, 2] }, type := 2, pos := "l12_bearings.go:114", after := #[{ on := 3, ground := Go.Ground.data }], guard := none }) (v := ?_) rfl (by kernel_rfl) (by kernel_rfl) (by kernel_rfl) (fun _ _ _ h => h) (Or.inl ⟨by rfl, ?_⟩) hS ?_
        rotate_left
        · (intro w hSw; have hSw := (HSd.out w).1 hSw; go_split_ands; go_simp) <;> with_reducible rfl
        clear hS
        try simp only [Act.put, List.setIfInBounds_toArray, List.set_cons_zero, List.set_cons_succ]
        refine wpAnyH_ready (rs := [7]) (by decide +kernel) (by simp) ?_
        refine AllReadyH.cons (o := { dst := some 38, op := Go.Op.call { callee := Go.Callee.value (Go.Operand.func 67), args := #[Go.Operand.tmp 36, Go.Operand.tmp 37], argTypes := #[25, 25] }, type := 2, pos := "l12_bearings.go:114", after := #[{ on := 5, ground := Go.Ground.data }, { on := 6, ground := Go.Ground.data }, { on := 2, ground := Go.Ground.chain }], guard := none }) rfl (fun Kn hK => ?_) AllReadyH.nil
        first | go_at_call 67 | (go_simp; go_at_call 67)
        (with_reducible refine Calls.mono (K2.out  _) ?_)
        rintro e V2 ⟨rfl, hb⟩
        try dsimp only
        try simp only [Act.put, List.setIfInBounds_toArray, List.set_cons_zero, List.set_cons_succ]
        replace bR := bR.on hb
        replace b_1 := b_1.on hb
        replace b_2 := b_2.on hb
        replace HB := Lib.hid (bel_end HB.out hb)
        clear hb
        refine hK.out _ _ (HSp.out _ b_1 b_2) (fun _ => ?_)
        clear hK Kn
        refine wpAnyH_ready (rs := [8]) (by decide +kernel) (by simp) ?_
        refine AllReadyH.cons (o := { dst := some 39, op := Go.Op.call { callee := Go.Callee.value (Go.Operand.func 59), args := #[Go.Operand.tmp 35, Go.Operand.tmp 38], argTypes := #[2, 2] }, type := 48, pos := "l12_bearings.go:114", after := #[{ on := 4, ground := Go.Ground.data }, { on := 7, ground := Go.Ground.data }, { on := 7, ground := Go.Ground.chain }], guard := none }) rfl (fun Kn hK => ?_) AllReadyH.nil
        first | go_at_call 59 | (go_simp; go_at_call 59)
        rw [HG.out]
        (with_reducible refine Calls.mono (KLL.out _) ?_)
        rintro e' V3 ⟨rfl, hb⟩
        try dsimp only
        try simp only [Act.put, List.setIfInBounds_toArray, List.set_cons_zero, List.set_cons_succ]
        replace bR := bR.on hb
        replace b_1 := b_1.on hb
        replace b_2 := b_2.on hb
        replace HB := Lib.hid (bel_end HB.out hb)
        clear hb
        refine hK.out _ _ (HSp.out _ b_1 b_2) (fun _ => ?_)
        clear hK Kn
        have hS := HSp.out _ b_1 b_2
        refine wpAnyH_take (i := 9) (oi := { dst := some 40, op := Go.Op.extract (Go.Operand.tmp 39) 0, type := 34, pos := "l12_bearings.go:114", after := #[{ on := 8, ground := Go.Ground.data }], guard := none }) (v := ?_) rfl (by kernel_rfl) (by kernel_rfl) (by kernel_rfl) (fun _ _ _ h => h) (Or.inl ⟨by rfl, ?_⟩) hS ?_
        rotate_left
        · (intro w hSw; have hSw := (HSd.out w).1 hSw; go_split_ands; go_simp) <;> with_reducible rfl
        clear hS
        try simp only [Act.put, List.setIfInBounds_toArray, List.set_cons_zero, List.set_cons_succ]
        have hS := HSp.out _ b_1 b_2
        refine wpAnyH_take (i := 10) (oi := { dst := some 41, op := Go.Op.extract (Go.Operand.tmp 39) 1, type := 2, pos := "l12_bearings.go:114", after := #[{ on := 8, ground := Go.Ground.data }], guard := none }) (v := ?_) rfl (by kernel_rfl) (by kernel_rfl) (by kernel_rfl) (fun _ _ _ h => h) (Or.inl ⟨by rfl, ?_⟩) hS ?_
        rotate_left
        · (intro w hSw; have hSw := (HSd.out w).1 hSw; go_split_ands; go_simp) <;> with_reducible rfl
        clear hS
        try simp only [Act.put, List.setIfInBounds_toArray, List.set_cons_zero, List.set_cons_succ]
        refine wpAnyH_ready (rs := [11]) (by decide +kernel) (by simp) ?_
        refine AllReadyH.cons (o := { dst := none, op := Go.Op.store 34 (Go.Operand.tmp 4) (Go.Operand.tmp 40), type := 0, pos := "l12_bearings.go:114", after := #[{ on := 9, ground := Go.Ground.data }, { on := 8, ground := Go.Ground.chain }, { on := 0, ground := Go.Ground.phase }, { on := 1, ground := Go.Ground.phase }, { on := 2, ground := Go.Ground.phase }, { on := 3, ground := Go.Ground.phase }, { on := 4, ground := Go.Ground.phase }, { on := 5, ground := Go.Ground.phase }, { on := 6, ground := Go.Ground.phase }, { on := 7, ground := Go.Ground.phase }, { on := 8, ground := Go.Ground.phase }, { on := 9, ground := Go.Ground.phase }, { on := 10, ground := Go.Ground.phase }], guard := none }) rfl (fun Kn hK => ?_) AllReadyH.nil
        have bR_0 := bR.cell 0 rfl
        have bR_1 := bR.cell 1 rfl
        have bR_f0 := bR.frozen 0
        have bR_f1 := bR.frozen 1
        have bR_l := bR.lt
        go_simp
        clear bR_0 bR_f0 bR_1 bR_f1 bR_l
        generalize hX : World.setCell _ _ _ = V4
        have hb : Below w.heap.size w V4 := by rw [← hX]; exact ((HB.out.setCell (p := ⟨w.heap.size + 1 + 1, 0, none⟩) (by first | omega | (dsimp only; omega)) _).setCell (p := ⟨w.heap.size + 1 + 1, 1, none⟩) (by first | omega | (dsimp only; omega)) _)
        replace b_1 : Bk V4 (g1) #[.int .i64 X, .int .i64 Y] 25 := by rw [← hX]; exact (Bk.other (Bk.other b_1 (by omega) 0 _) (by omega) 1 _)
        replace b_2 : Bk V4 (g2) #[.int .i64 0, .int .i64 N] 25 := by rw [← hX]; exact (Bk.other (Bk.other b_2 (by omega) 0 _) (by omega) 1 _)
        replace bR : Bk V4 (w.heap.size + 1 + 1) #[.int .i64 u, .int .i64 v] 34 := by rw [← hX]; exact (Bk.set (Bk.set bR 0 _ rfl) 1 _ rfl)
        clear hX
        replace HB := Lib.hid hb
        clear hb
        refine hK.out _ _ (HSp.out _ b_1 b_2) (fun _ => ?_)
        clear hK Kn
        have hS := HSp.out _ b_1 b_2
        refine wpAnyH_take (i := 12) (oi := { dst := some 5, op := Go.Op.assign (Go.Operand.tmp 41), type := 2, pos := "l12_bearings.go:114", after := #[{ on := 10, ground := Go.Ground.data }, { on := 11, ground := Go.Ground.chain }, { on := 0, ground := Go.Ground.phase }, { on := 1, ground := Go.Ground.phase }, { on := 2, ground := Go.Ground.phase }, { on := 3, ground := Go.Ground.phase }, { on := 4, ground := Go.Ground.phase }, { on := 5, ground := Go.Ground.phase }, { on := 6, ground := Go.Ground.phase }, { on := 7, ground := Go.Ground.phase }, { on := 8, ground := Go.Ground.phase }, { on := 9, ground := Go.Ground.phase }, { on := 10, ground := Go.Ground.phase }, { on := 11, ground := Go.Ground.phase }], guard := none }) (v := ?_) rfl (by kernel_rfl) (by kernel_rfl) (by kernel_rfl) (fun _ _ _ h => h) (Or.inl ⟨by rfl, ?_⟩) hS ?_
        rotate_left
        · (intro w hSw; have hSw := (HSd.out w).1 hSw; go_split_ands; go_simp) <;> with_reducible rfl
        clear hS
        try simp only [Act.put, List.setIfInBounds_toArray, List.set_cons_zero, List.set_cons_succ]
        refine wpAnyH_done (by kernel_rfl) ?_ _
        have c0 := bR.cell 0 rfl
        have c1 := bR.cell 1 rfl
        go_wp2
        exact bodyPost_ret (v := .tuple #[.agg #[.int .i64 u, .int .i64 v], .int .i64 e]) (by simp [results, Try.results30, go_sem, c0, c1]) rfl ⟨res3r HT.out, HB.out⟩
    case neg =>
      have hx2 : (M == 0) = false := by simpa using hx
      have hz : ¬ (M = 0 ∧ N = 0) := fun e => hx e.1
      clear hx
      have HT := Lib.hid (HT1.out hz)
      have KLL := Lib.hid (KL.out hz)
      clear HT1 KL hz
      have bR_0 := bR.cell 0 rfl
      have bR_1 := bR.cell 1 rfl
      have bR_l := bR.lt
      have b_1_0 := b_1.cell 0 rfl
      have b_1_1 := b_1.cell 1 rfl
      have b_1_l := b_1.lt
      have b_2_0 := b_2.cell 0 rfl
      have b_2_1 := b_2.cell 1 rfl
      have b_2_l := b_2.lt
      go_upto_region 6 with fail
      clear bR_0 bR_1 bR_l b_1_0 b_1_1 b_1_l b_2_0 b_2_1 b_2_l
      obtain ⟨S, hSd⟩ : ∃ S : World → Prop, ∀ w', S w' ↔ (w'.cell? ⟨g1, 0, none⟩ = some (.int .i64 X) ∧ w'.cell? ⟨g1, 1, none⟩ = some (.int .i64 Y) ∧ w'.cell? ⟨g2, 0, none⟩ = some (.int .i64 M) ∧ w'.cell? ⟨g2, 1, none⟩ = some (.int .i64 N)) := ⟨_, fun _ => Iff.rfl⟩
      have HSp : Hid (∀ w' : World, Bk w' (g1) #[.int .i64 X, .int .i64 Y] 25 → Bk w' (g2) #[.int .i64 M, .int .i64 N] 25 → S w') := Lib.hid (fun w' b_1 b_2 => (hSd w').2 ⟨b_1.cell 0 rfl, b_1.cell 1 rfl, b_2.cell 0 rfl, b_2.cell 1 rfl⟩)
      have HSd := Lib.hid hSd
      clear hSd
      refine wp_region_held_drew (S := S) (by kernel_rfl) ?_ (fun hH => ?_)
      · exact (HSp.out _ b_1 b_2 : S (World.drew wc))
      clear hH
      generalize hX : World.drew wc = V0
      replace bR : Bk V0 (w.heap.size + 1 + 1) #[.int .i64 0, .int .i64 0] 34 := by rw [← hX]; exact bR
      replace b_1 : Bk V0 (g1) #[.int .i64 X, .int .i64 Y] 25 := by rw [← hX]; exact b_1
      replace b_2 : Bk V0 (g2) #[.int .i64 M, .int .i64 N] 25 := by rw [← hX]; exact b_2
      have hb : Below wc.heap.size wc V0 := by rw [← hX]; exact (Below.refl _ _).drew
      clear hX
      replace HB := Lib.hid (bel_end HB.out hb)
      clear hb
      have hS := HSp.out _ b_1 b_2
      refine wpAnyH_take (i := 0) (oi := { dst := some 31, op := Go.Op.load 25 (Go.Operand.tmp 6), type := 25, pos := "l12_bearings.go:114", after := #[], guard := none }) (v := ?_) rfl (by kernel_rfl) (by kernel_rfl) (by kernel_rfl) (fun _ _ _ h => h) (Or.inl ⟨by rfl, ?_⟩) hS ?_
      rotate_left
      · (intro w hSw; have hSw := (HSd.out w).1 hSw; go_split_ands; go_simp) <;> with_reducible rfl
      clear hS
      try simp only [Act.put, List.setIfInBounds_toArray, List.set_cons_zero, List.set_cons_succ]
      have hS := HSp.out _ b_1 b_2
      refine wpAnyH_take (i := 1) (oi := { dst := some 32, op := Go.Op.load 25 (Go.Operand.tmp 7), type := 25, pos := "l12_bearings.go:114", after := #[], guard := none }) (v := ?_) rfl (by kernel_rfl) (by kernel_rfl) (by kernel_rfl) (fun _ _ _ h => h) (Or.inl ⟨by rfl, ?_⟩) hS ?_
      rotate_left
      · (intro w hSw; have hSw := (HSd.out w).1 hSw; go_split_ands; go_simp) <;> with_reducible rfl
      clear hS
      try simp only [Act.put, List.setIfInBounds_toArray, List.set_cons_zero, List.set_cons_succ]
      have hS := HSp.out _ b_1 b_2
      refine wpAnyH_take (i := 5) (oi := { dst := some 36, op := Go.Op.load 25 (Go.Operand.tmp 7), type := 25, pos := "l12_bearings.go:114", after := #[], guard := none }) (v := ?_) rfl (by kernel_rfl) (by kernel_rfl) (by kernel_rfl) (fun _ _ _ h => h) (Or.inl ⟨by rfl, ?_⟩) hS ?_
      rotate_left
      · (intro w hSw; have hSw := (HSd.out w).1 hSw; go_split_ands; go_simp) <;> with_reducible rfl
      clear hS
      try simp only [Act.put, List.setIfInBounds_toArray, List.set_cons_zero, List.set_cons_succ]
      have hS := HSp.out _ b_1 b_2
      refine wpAnyH_take (i := 6) (oi := { dst := some 37, op := Go.Op.load 25 (Go.Operand.tmp 7), type := 25, pos := "l12_bearings.go:114", after := #[], guard := none }) (v := ?_) rfl (by kernel_rfl) (by kernel_rfl) (by kernel_rfl) (fun _ _ _ h => h) (Or.inl ⟨by rfl, ?_⟩) hS ?_
      rotate_left
      · (intro w hSw; have hSw := (HSd.out w).1 hSw; go_split_ands; go_simp) <;> with_reducible rfl
      clear hS
      try simp only [Act.put, List.setIfInBounds_toArray, List.set_cons_zero, List.set_cons_succ]
      refine wpAnyH_ready (rs := [2]) (by decide +kernel) (by simp) ?_
      refine AllReadyH.cons (o := { dst := some 33, op := Go.Op.call { callee := Go.Callee.value (Go.Operand.func 67), args := #[Go.Operand.tmp 31, Go.Operand.tmp 32], argTypes := #[25, 25] }, type := 2, pos := "l12_bearings.go:114", after := #[{ on := 0, ground := Go.Ground.data }, { on := 1, ground := Go.Ground.data }], guard := none }) rfl (fun Kn hK => ?_) AllReadyH.nil
      first | go_at_call 67 | (go_simp; go_at_call 67)
      (with_reducible refine Calls.mono (K1.out  _) ?_)
      rintro e V1 ⟨rfl, hb⟩
      try dsimp only
      try simp only [Act.put, List.setIfInBounds_toArray, List.set_cons_zero, List.set_cons_succ]
      replace bR := bR.on hb
      replace b_1 := b_1.on hb
      replace b_2 := b_2.on hb
      replace HB := Lib.hid (bel_end HB.out hb)
      clear hb
      refine hK.out _ _ (HSp.out _ b_1 b_2) (fun _ => ?_)
      clear hK Kn
      have hS := HSp.out _ b_1 b_2
      refine wpAnyH_take (i := 3) (oi := { dst := some 34, op := Go.Op.unOp Go.UnOp.neg 2 (Go.Operand.tmp 33), type := 2, pos := "l12_bearings.go:114", after := #[{ on := 2, ground := Go.Ground.data }], guard := none }) (v := ?_) rfl (by kernel_rfl) (by kernel_rfl) (by kernel_rfl) (fun _ _ _ h => h) (Or.inl ⟨by rfl, ?_⟩) hS ?_
      rotate_left
      · (intro w hSw; have hSw := (HSd.out w).1 hSw; go_split_ands; go_simp) <;> with_reducible rfl
      clear hS
      try simp only [Act.put, List.setIfInBounds_toArray, List.set_cons_zero, List.set_cons_succ]
      have hS := HSp.out _ b_1 b_2
      refine wpAnyH_take (i := 4) (oi := { dst := some 35, op := Go.Op.call { callee := Go.Callee.builtin Go.Builtin.max, args := #[Go.Operand.const (Go.Value.int Go.IntKind.i64 0), Go.Operand.tmp 34], argTypes := #[2, 2] }, type := 2, pos := "l12_bearings.go:114", after := #[{ on := 3, ground := Go.Ground.data }], guard := none }) (v := ?_) rfl (by kernel_rfl) (by kernel_rfl) (by kernel_rfl) (fun _ _ _ h => h) (Or.inl ⟨by rfl, ?_⟩) hS ?_
      rotate_left
      · (intro w hSw; have hSw := (HSd.out w).1 hSw; go_split_ands; go_simp) <;> with_reducible rfl
      clear hS
      try simp only [Act.put, List.setIfInBounds_toArray, List.set_cons_zero, List.set_cons_succ]
      refine wpAnyH_ready (rs := [7]) (by decide +kernel) (by simp) ?_
      refine AllReadyH.cons (o := { dst := some 38, op := Go.Op.call { callee := Go.Callee.value (Go.Operand.func 67), args := #[Go.Operand.tmp 36, Go.Operand.tmp 37], argTypes := #[25, 25] }, type := 2, pos := "l12_bearings.go:114", after := #[{ on := 5, ground := Go.Ground.data }, { on := 6, ground := Go.Ground.data }, { on := 2, ground := Go.Ground.chain }], guard := none }) rfl (fun Kn hK => ?_) AllReadyH.nil
      first | go_at_call 67 | (go_simp; go_at_call 67)
      (with_reducible refine Calls.mono (K2.out  _) ?_)
      rintro e V2 ⟨rfl, hb⟩
      try dsimp only
      try simp only [Act.put, List.setIfInBounds_toArray, List.set_cons_zero, List.set_cons_succ]
      replace bR := bR.on hb
      replace b_1 := b_1.on hb
      replace b_2 := b_2.on hb
      replace HB := Lib.hid (bel_end HB.out hb)
      clear hb
      refine hK.out _ _ (HSp.out _ b_1 b_2) (fun _ => ?_)
      clear hK Kn
      refine wpAnyH_ready (rs := [8]) (by decide +kernel) (by simp) ?_
      refine AllReadyH.cons (o := { dst := some 39, op := Go.Op.call { callee := Go.Callee.value (Go.Operand.func 59), args := #[Go.Operand.tmp 35, Go.Operand.tmp 38], argTypes := #[2, 2] }, type := 48, pos := "l12_bearings.go:114", after := #[{ on := 4, ground := Go.Ground.data }, { on := 7, ground := Go.Ground.data }, { on := 7, ground := Go.Ground.chain }], guard := none }) rfl (fun Kn hK => ?_) AllReadyH.nil
      first | go_at_call 59 | (go_simp; go_at_call 59)
      rw [HG.out]
      (with_reducible refine Calls.mono (KLL.out _) ?_)
      rintro e' V3 ⟨rfl, hb⟩
      try dsimp only
      try simp only [Act.put, List.setIfInBounds_toArray, List.set_cons_zero, List.set_cons_succ]
      replace bR := bR.on hb
      replace b_1 := b_1.on hb
      replace b_2 := b_2.on hb
      replace HB := Lib.hid (bel_end HB.out hb)
      clear hb
      refine hK.out _ _ (HSp.out _ b_1 b_2) (fun _ => ?_)
      clear hK Kn
      have hS := HSp.out _ b_1 b_2
      refine wpAnyH_take (i := 9) (oi := { dst := some 40, op := Go.Op.extract (Go.Operand.tmp 39) 0, type := 34, pos := "l12_bearings.go:114", after := #[{ on := 8, ground := Go.Ground.data }], guard := none }) (v := ?_) rfl (by kernel_rfl) (by kernel_rfl) (by kernel_rfl) (fun _ _ _ h => h) (Or.inl ⟨by rfl, ?_⟩) hS ?_
      rotate_left
      · (intro w hSw; have hSw := (HSd.out w).1 hSw; go_split_ands; go_simp) <;> with_reducible rfl
      clear hS
      try simp only [Act.put, List.setIfInBounds_toArray, List.set_cons_zero, List.set_cons_succ]
      have hS := HSp.out _ b_1 b_2
      refine wpAnyH_take (i := 10) (oi := { dst := some 41, op := Go.Op.extract (Go.Operand.tmp 39) 1, type := 2, pos := "l12_bearings.go:114", after := #[{ on := 8, ground := Go.Ground.data }], guard := none }) (v := ?_) rfl (by kernel_rfl) (by kernel_rfl) (by kernel_rfl) (fun _ _ _ h => h) (Or.inl ⟨by rfl, ?_⟩) hS ?_
      rotate_left
      · (intro w hSw; have hSw := (HSd.out w).1 hSw; go_split_ands; go_simp) <;> with_reducible rfl
      clear hS
      try simp only [Act.put, List.setIfInBounds_toArray, List.set_cons_zero, List.set_cons_succ]
      refine wpAnyH_ready (rs := [11]) (by decide +kernel) (by simp) ?_
      refine AllReadyH.cons (o := { dst := none, op := Go.Op.store 34 (Go.Operand.tmp 4) (Go.Operand.tmp 40), type := 0, pos := "l12_bearings.go:114", after := #[{ on := 9, ground := Go.Ground.data }, { on := 8, ground := Go.Ground.chain }, { on := 0, ground := Go.Ground.phase }, { on := 1, ground := Go.Ground.phase }, { on := 2, ground := Go.Ground.phase }, { on := 3, ground := Go.Ground.phase }, { on := 4, ground := Go.Ground.phase }, { on := 5, ground := Go.Ground.phase }, { on := 6, ground := Go.Ground.phase }, { on := 7, ground := Go.Ground.phase }, { on := 8, ground := Go.Ground.phase }, { on := 9, ground := Go.Ground.phase }, { on := 10, ground := Go.Ground.phase }], guard := none }) rfl (fun Kn hK => ?_) AllReadyH.nil
      have bR_0 := bR.cell 0 rfl
      have bR_1 := bR.cell 1 rfl
      have bR_f0 := bR.frozen 0
      have bR_f1 := bR.frozen 1
      have bR_l := bR.lt
      go_simp
      clear bR_0 bR_f0 bR_1 bR_f1 bR_l
      generalize hX : World.setCell _ _ _ = V4
      have hb : Below w.heap.size w V4 := by rw [← hX]; exact ((HB.out.setCell (p := ⟨w.heap.size + 1 + 1, 0, none⟩) (by first | omega | (dsimp only; omega)) _).setCell (p := ⟨w.heap.size + 1 + 1, 1, none⟩) (by first | omega | (dsimp only; omega)) _)
      replace b_1 : Bk V4 (g1) #[.int .i64 X, .int .i64 Y] 25 := by rw [← hX]; exact (Bk.other (Bk.other b_1 (by omega) 0 _) (by omega) 1 _)
      replace b_2 : Bk V4 (g2) #[.int .i64 M, .int .i64 N] 25 := by rw [← hX]; exact (Bk.other (Bk.other b_2 (by omega) 0 _) (by omega) 1 _)
      replace bR : Bk V4 (w.heap.size + 1 + 1) #[.int .i64 u, .int .i64 v] 34 := by rw [← hX]; exact (Bk.set (Bk.set bR 0 _ rfl) 1 _ rfl)
      clear hX
      replace HB := Lib.hid hb
      clear hb
      refine hK.out _ _ (HSp.out _ b_1 b_2) (fun _ => ?_)
      clear hK Kn
      have hS := HSp.out _ b_1 b_2
      refine wpAnyH_take (i := 12) (oi := { dst := some 5, op := Go.Op.assign (Go.Operand.tmp 41), type := 2, pos := "l12_bearings.go:114", after := #[{ on := 10, ground := Go.Ground.data }, { on := 11, ground := Go.Ground.chain }, { on := 0, ground := Go.Ground.phase }, { on := 1, ground := Go.Ground.phase }, { on := 2, ground := Go.Ground.phase }, { on := 3, ground := Go.Ground.phase }, { on := 4, ground := Go.Ground.phase }, { on := 5, ground := Go.Ground.phase }, { on := 6, ground := Go.Ground.phase }, { on := 7, ground := Go.Ground.phase }, { on := 8, ground := Go.Ground.phase }, { on := 9, ground := Go.Ground.phase }, { on := 10, ground := Go.Ground.phase }, { on := 11, ground := Go.Ground.phase }], guard := none }) (v := ?_) rfl (by kernel_rfl) (by kernel_rfl) (by kernel_rfl) (fun _ _ _ h => h) (Or.inl ⟨by rfl, ?_⟩) hS ?_
      rotate_left
      · (intro w hSw; have hSw := (HSd.out w).1 hSw; go_split_ands; go_simp) <;> with_reducible rfl
      clear hS
      try simp only [Act.put, List.setIfInBounds_toArray, List.set_cons_zero, List.set_cons_succ]
      refine wpAnyH_done (by kernel_rfl) ?_ _
      have c0 := bR.cell 0 rfl
      have c1 := bR.cell 1 rfl
      go_wp2
      exact bodyPost_ret (v := .tuple #[.agg #[.int .i64 u, .int .i64 v], .int .i64 e]) (by simp [results, Try.results30, go_sem, c0, c1]) rfl ⟨res3r HT.out, HB.out⟩

theorem sct_any (w : World) (a1 a2 a3 a4 b1 b2 b3 b4 : Int) : Calls Try.prog 30 #[.agg #[.int .i64 a1, .int .i64 a2, .int .i64 a3, .int .i64 a4], .agg #[.int .i64 b1, .int .i64 b2, .int .i64 b3, .int .i64 b4]] w fun e w' => e = .returned (.tuple #[.agg #[.int .i64 (ctR a1 a2 a3 a4 b1 b2 b3 b4).1, .int .i64 (ctR a1 a2 a3 a4 b1 b2 b3 b4).2.1], .int .i64 (ctR a1 a2 a3 a4 b1 b2 b3 b4).2.2]) ∧ Below w.heap.size w w' := by
  cases hok : okT a1 a2 a3 a4 b1 b2 b3 b4
  · exact sct_no w a1 a2 a3 a4 b1 b2 b3 b4 hok
  · exact sct_ok w a1 a2 a3 a4 b1 b2 b3 b4 hok

set_option maxRecDepth 100000 in
set_option maxHeartbeats 8000000 in
theorem scs_no (w : World) (a1 a2 a3 a4 b1 b2 b3 b4 : Int) (hok : okT a1 a2 a3 a4 b1 b2 b3 b4 = false) :
    Calls Try.prog 32 #[.agg #[.int .i64 a1, .int .i64 a2, .int .i64 a3, .int .i64 a4], .agg #[.int .i64 b1, .int .i64 b2, .int .i64 b3, .int .i64 b4]] w fun e w' => e = .returned (.tuple #[.agg #[.int .i64 (csR a1 a2 a3 a4 b1 b2 b3 b4).1, .int .i64 (csR a1 a2 a3 a4 b1 b2 b3 b4).2.1], .int .i64 (csR a1 a2 a3 a4 b1 b2 b3 b4).2.2]) ∧ Below w.heap.size w w' := by
  have HT : Hid (csR a1 a2 a3 a4 b1 b2 b3 b4 = (0, 0, 1)) := Lib.hid (by unfold csR; rw [hok]; rfl)
  obtain ⟨P, hP⟩ : ∃ q, tkB a1 a2 a3 a4 = q := ⟨_, rfl⟩
  obtain ⟨R, hR⟩ : ∃ q, tkB b1 b2 b3 b4 = q := ⟨_, rfl⟩
  unfold okT at hok
  rw [hP, hR] at hok
  have HO := Lib.hid hok
  have KA : Hid (∀ W : World, Calls Try.prog 62 #[.agg #[.int .i64 a1, .int .i64 a2, .int .i64 a3, .int .i64 a4]] W fun e w' => e = .returned (.bool P) ∧ Below W.heap.size W w') := Lib.hid (fun W => by have := ltk_any W a1 a2 a3 a4; rwa [hP] at this)
  have KB : Hid (∀ W : World, Calls Try.prog 62 #[.agg #[.int .i64 b1, .int .i64 b2, .int .i64 b3, .int .i64 b4]] W fun e w' => e = .returned (.bool R) ∧ Below W.heap.size W w') := Lib.hid (fun W => by have := ltk_any W b1 b2 b3 b4; rwa [hR] at this)
  clear hP hR hok
  go_enter Try.func32, Try.ntmps32
  go_wp2_with fail
  generalize hW : World.alloc _ _ = W
  have bA : Bk W (w.heap.size) #[.int .i64 a1, .int .i64 a2, .int .i64 a3, .int .i64 a4] 44 := by rw [← hW]; repeat (first | (refine Bk.new' ?_; (simp; done)) | refine Bk.alloc ?_ _)
  have bB : Bk W (w.heap.size + 1) #[.int .i64 b1, .int .i64 b2, .int .i64 b3, .int .i64 b4] 44 := by rw [← hW]; repeat (first | (refine Bk.new' ?_; (simp; done)) | refine Bk.alloc ?_ _)
  have bR : Bk W (w.heap.size + 1 + 1) #[.int .i64 0, .int .i64 0] 34 := by rw [← hW]; repeat (first | (refine Bk.new' ?_; (simp; done)) | refine Bk.alloc ?_ _)
  have HB : Hid (Below w.heap.size w W) := Lib.hid (by rw [← hW]; exact (by repeat (first | exact Below.refl _ _ | (refine Below.alloc ?_ (by simp <;> omega) _) | (refine Below.setCell ?_ (by simp <;> omega) _) | (refine Below.drew ?_) | (refine bel_drewN ?_ _))))
  clear hW
  refine (KA.out _).mono ?_
  rintro e w1 ⟨rfl, hb⟩
  replace bA := bA.on hb
  replace bB := bB.on hb
  replace bR := bR.on hb
  replace HB := Lib.hid (bel_end HB.out hb)
  clear hb
  cases hP : P
  case false =>
    subst hP
    have bA_0 := bA.cell 0 rfl
    have bA_1 := bA.cell 1 rfl
    have bA_2 := bA.cell 2 rfl
    have bA_3 := bA.cell 3 rfl
    have bA_l := bA.lt
    have bB_0 := bB.cell 0 rfl
    have bB_1 := bB.cell 1 rfl
    have bB_2 := bB.cell 2 rfl
    have bB_3 := bB.cell 3 rfl
    have bB_l := bB.lt
    have bR_0 := bR.cell 0 rfl
    have bR_1 := bR.cell 1 rfl
    have bR_l := bR.lt
    have bR_f0 := bR.frozen 0
    have bR_f1 := bR.frozen 1
    go_wp2
    exact bodyPost_ret (v := .tuple #[.agg #[.int .i64 0, .int .i64 0], .int .i64 1]) (by simp [results, Try.results32, go_sem, bR_0, bR_f0, bR_1, bR_f1, bR_l]) rfl ⟨res3r HT.out, (by repeat (first | exact HB.out | (refine Below.setCell ?_ (by simp <;> omega) _) | (refine Below.alloc ?_ (by simp <;> omega) _) | (refine Below.drew ?_)))⟩
  case true =>
    subst hP
    obtain rfl : R = false := HO.out
    have bA_0 := bA.cell 0 rfl
    have bA_1 := bA.cell 1 rfl
    have bA_2 := bA.cell 2 rfl
    have bA_3 := bA.cell 3 rfl
    have bA_l := bA.lt
    have bB_0 := bB.cell 0 rfl
    have bB_1 := bB.cell 1 rfl
    have bB_2 := bB.cell 2 rfl
    have bB_3 := bB.cell 3 rfl
    have bB_l := bB.lt
    have bR_0 := bR.cell 0 rfl
    have bR_1 := bR.cell 1 rfl
    have bR_l := bR.lt
    go_wp2_with fail
    refine (KB.out _).mono ?_
    rintro e w2 ⟨rfl, hb⟩
    replace bA := bA.on hb
    replace bB := bB.on hb
    replace bR := bR.on hb
    replace HB := Lib.hid (bel_end HB.out hb)
    clear hb
    clear bA_0 bA_1 bA_2 bA_3 bA_l bB_0 bB_1 bB_2 bB_3 bB_l bR_0 bR_1 bR_l
    have bA_0 := bA.cell 0 rfl
    have bA_1 := bA.cell 1 rfl
    have bA_2 := bA.cell 2 rfl
    have bA_3 := bA.cell 3 rfl
    have bA_l := bA.lt
    have bB_0 := bB.cell 0 rfl
    have bB_1 := bB.cell 1 rfl
    have bB_2 := bB.cell 2 rfl
    have bB_3 := bB.cell 3 rfl
    have bB_l := bB.lt
    have bR_0 := bR.cell 0 rfl
    have bR_1 := bR.cell 1 rfl
    have bR_l := bR.lt
    have bR_f0 := bR.frozen 0
    have bR_f1 := bR.frozen 1
    go_wp2
    exact bodyPost_ret (v := .tuple #[.agg #[.int .i64 0, .int .i64 0], .int .i64 1]) (by simp [results, Try.results32, go_sem, bR_0, bR_f0, bR_1, bR_f1, bR_l]) rfl ⟨res3r HT.out, (by repeat (first | exact HB.out | (refine Below.setCell ?_ (by simp <;> omega) _) | (refine Below.alloc ?_ (by simp <;> omega) _) | (refine Below.drew ?_)))⟩

set_option maxRecDepth 100000 in
set_option maxHeartbeats 8000000 in
theorem scs_ok (w : World) (a1 a2 a3 a4 b1 b2 b3 b4 : Int) (hok : okT a1 a2 a3 a4 b1 b2 b3 b4 = true) :
    Calls Try.prog 32 #[.agg #[.int .i64 a1, .int .i64 a2, .int .i64 a3, .int .i64 a4], .agg #[.int .i64 b1, .int .i64 b2, .int .i64 b3, .int .i64 b4]] w fun e w' => e = .returned (.tuple #[.agg #[.int .i64 (csR a1 a2 a3 a4 b1 b2 b3 b4).1, .int .i64 (csR a1 a2 a3 a4 b1 b2 b3 b4).2.1], .int .i64 (csR a1 a2 a3 a4 b1 b2 b3 b4).2.2]) ∧ Below w.heap.size w w' := by
  obtain ⟨ha, hb, hs⟩ := okT_t hok
  have ba := tkB_t ha
  have bb := tkB_t hb
  have KA : Hid (∀ W : World, Calls Try.prog 62 #[.agg #[.int .i64 a1, .int .i64 a2, .int .i64 a3, .int .i64 a4]] W fun e w' => e = .returned (.bool true) ∧ Below W.heap.size W w') := Lib.hid (fun W => by have := ltk_any W a1 a2 a3 a4; rwa [ha] at this)
  have KB : Hid (∀ W : World, Calls Try.prog 62 #[.agg #[.int .i64 b1, .int .i64 b2, .int .i64 b3, .int .i64 b4]] W fun e w' => e = .returned (.bool true) ∧ Below W.heap.size W w') := Lib.hid (fun W => by have := ltk_any W b1 b2 b3 b4; rwa [hb] at this)
  have KL1 : Hid (∀ W : World, Calls Try.prog 51 #[.agg #[.int .i64 b1, .int .i64 b2], .agg #[.int .i64 a1, .int .i64 a2]] W fun e w' => e = .returned (.agg #[.int .i64 (b1 - a1), .int .i64 (b2 - a2)]) ∧ Below W.heap.size W w') := Lib.hid (fun W => lle_any W b1 b2 a1 a2 (by omega) (by omega) (by omega) (by omega) (by omega) (by omega) (by omega) (by omega))
  have KL2 : Hid (∀ W : World, Calls Try.prog 51 #[.agg #[.int .i64 b3, .int .i64 b4], .agg #[.int .i64 a3, .int .i64 a4]] W fun e w' => e = .returned (.agg #[.int .i64 (b3 - a3), .int .i64 (b4 - a4)]) ∧ Below W.heap.size W w') := Lib.hid (fun W => lle_any W b3 b4 a3 a4 (by omega) (by omega) (by omega) (by omega) (by omega) (by omega) (by omega) (by omega))
  have HT0 : csR a1 a2 a3 a4 b1 b2 b3 b4 = rlT (lsN (b1 - a1) (b2 - a2) (b3 - a3) (b4 - a4)) (lsD (b1 - a1) (b2 - a2) (b3 - a3) (b4 - a4)) := by unfold csR; rw [hok]; rfl
  obtain ⟨X, hX⟩ : ∃ u, b1 - a1 = u := ⟨_, rfl⟩
  obtain ⟨Y, hY⟩ : ∃ u, b2 - a2 = u := ⟨_, rfl⟩
  obtain ⟨M, hM⟩ : ∃ u, b3 - a3 = u := ⟨_, rfl⟩
  obtain ⟨N, hN⟩ : ∃ u, b4 - a4 = u := ⟨_, rfl⟩
  rw [hX, hY] at KL1
  rw [hM, hN] at KL2
  rw [hX, hY, hM, hN] at hs
  rw [hX, hY, hM, hN] at HT0
  clear hX hY hM hN hok ha hb ba bb
  have d := hs.dt
  have p := hs.pr
  have q := hs.ss
  have x := hs.xx
  have cb := hs.cc
  have ld := lsD_pos X Y M N
  have K1 : Hid (∀ W : World, Calls Try.prog 67 #[.agg #[.int .i64 X, .int .i64 Y], .agg #[.int .i64 M, .int .i64 N]] W fun e w' => e = .returned (.int .i64 (dt2 X Y M N)) ∧ Below W.heap.size W w') := Lib.hid (fun W => ldt_any W X Y M N (by omega) (by omega) (by omega) (by omega))
  have K2 : Hid (∀ W : World, Calls Try.prog 67 #[.agg #[.int .i64 X, .int .i64 Y], .agg #[.int .i64 X, .int .i64 Y]] W fun e w' => e = .returned (.int .i64 (dt2 X Y X Y)) ∧ Below W.heap.size W w') := Lib.hid (fun W => ldt_any W X Y X Y (by omega) (by omega) (by omega) (by omega))
  have K3 : Hid (∀ W : World, Calls Try.prog 67 #[.agg #[.int .i64 M, .int .i64 N], .agg #[.int .i64 M, .int .i64 N]] W fun e w' => e = .returned (.int .i64 (dt2 M N M N)) ∧ Below W.heap.size W w') := Lib.hid (fun W => ldt_any W M N M N (by omega) (by omega) (by omega) (by omega))
  have K4 : Hid (∀ W : World, Calls Try.prog 50 #[.agg #[.int .i64 X, .int .i64 Y], .agg #[.int .i64 M, .int .i64 N]] W fun e w' => e = .returned (.int .i64 (crs X Y M N)) ∧ Below W.heap.size W w') := Lib.hid (fun W => lcr_any W X Y M N (by omega) (by omega) (by omega) (by omega))
  have eN : lsN X Y M N = if 0 ≤ dt2 X Y M N then dt2 X Y X Y else crs X Y M N * crs X Y M N := rfl
  have eF : lsD X Y M N = if 0 ≤ dt2 X Y M N then 1 else dt2 M N M N := rfl
  rw [eF] at ld
  rw [eN, eF] at HT0
  clear eN eF
  obtain ⟨D, hD⟩ : ∃ u, dt2 X Y M N = u := ⟨_, rfl⟩
  obtain ⟨E, hE⟩ : ∃ u, dt2 X Y X Y = u := ⟨_, rfl⟩
  obtain ⟨F, hF⟩ : ∃ u, dt2 M N M N = u := ⟨_, rfl⟩
  obtain ⟨C, hC⟩ : ∃ u, crs X Y M N = u := ⟨_, rfl⟩
  rw [hD] at K1 HT0 ld d
  rw [hE] at K2 HT0 d
  rw [hF] at K3 HT0 ld d
  rw [hC] at K4 HT0 cb
  have ec : IntKind.wrap .i64 (C * C) = C * C := IntWalk.i64_in _ (by omega)
  obtain ⟨Z, hZ⟩ : ∃ u, C * C = u := ⟨_, rfl⟩
  rw [hZ] at HT0 ec cb
  have ec2 : IntKind.wrap .i64 (C * C) = Z := by rw [hZ]; exact ec
  clear hD hE hF hC hZ p q x ec hs
  go_enter Try.func32, Try.ntmps32
  go_wp2_with fail
  generalize hW : World.alloc _ _ = W
  have bA : Bk W (w.heap.size) #[.int .i64 a1, .int .i64 a2, .int .i64 a3, .int .i64 a4] 44 := by rw [← hW]; repeat (first | (refine Bk.new' ?_; (simp; done)) | refine Bk.alloc ?_ _)
  have bB : Bk W (w.heap.size + 1) #[.int .i64 b1, .int .i64 b2, .int .i64 b3, .int .i64 b4] 44 := by rw [← hW]; repeat (first | (refine Bk.new' ?_; (simp; done)) | refine Bk.alloc ?_ _)
  have bR : Bk W (w.heap.size + 1 + 1) #[.int .i64 0, .int .i64 0] 34 := by rw [← hW]; repeat (first | (refine Bk.new' ?_; (simp; done)) | refine Bk.alloc ?_ _)
  have HB : Hid (Below w.heap.size w W) := Lib.hid (by rw [← hW]; exact (by repeat (first | exact Below.refl _ _ | (refine Below.alloc ?_ (by simp <;> omega) _) | (refine Below.setCell ?_ (by simp <;> omega) _) | (refine Below.drew ?_) | (refine bel_drewN ?_ _))))
  clear hW
  refine (KA.out _).mono ?_
  rintro e w1 ⟨rfl, hb⟩
  replace bA := bA.on hb
  replace bB := bB.on hb
  replace bR := bR.on hb
  replace HB := Lib.hid (bel_end HB.out hb)
  clear hb
  have bA_0 := bA.cell 0 rfl
  have bA_1 := bA.cell 1 rfl
  have bA_2 := bA.cell 2 rfl
  have bA_3 := bA.cell 3 rfl
  have bA_l := bA.lt
  have bB_0 := bB.cell 0 rfl
  have bB_1 := bB.cell 1 rfl
  have bB_2 := bB.cell 2 rfl
  have bB_3 := bB.cell 3 rfl
  have bB_l := bB.lt
  have bR_0 := bR.cell 0 rfl
  have bR_1 := bR.cell 1 rfl
  have bR_l := bR.lt
  go_wp2_with fail
  refine (KB.out _).mono ?_
  rintro e w2 ⟨rfl, hb⟩
  replace bA := bA.on hb
  replace bB := bB.on hb
  replace bR := bR.on hb
  replace HB := Lib.hid (bel_end HB.out hb)
  clear hb
  clear bA_0 bA_1 bA_2 bA_3 bA_l bB_0 bB_1 bB_2 bB_3 bB_l bR_0 bR_1 bR_l
  have HB0 := Lib.hid (show w.heap.size + 1 + 1 < w2.heap.size from bR.lt)
  have bA_0 := bA.cell 0 rfl
  have bA_1 := bA.cell 1 rfl
  have bA_2 := bA.cell 2 rfl
  have bA_3 := bA.cell 3 rfl
  have bA_l := bA.lt
  have bB_0 := bB.cell 0 rfl
  have bB_1 := bB.cell 1 rfl
  have bB_2 := bB.cell 2 rfl
  have bB_3 := bB.cell 3 rfl
  have bB_l := bB.lt
  have bR_0 := bR.cell 0 rfl
  have bR_1 := bR.cell 1 rfl
  have bR_l := bR.lt
  go_upto_region 3 with fail
  clear bA_0 bA_1 bA_2 bA_3 bA_l bB_0 bB_1 bB_2 bB_3 bB_l bR_0 bR_1 bR_l
  go_cut [6, 7] (fun s6 s7 wx => TwoP wx s6 s7 X Y M N w2.heap.size ∧ Below w2.heap.size w2 wx)
  case first =>
    have HW : Hid (Below w2.heap.size w2 w2) := Lib.hid (Below.refl _ _)
    obtain ⟨S, hSd⟩ : ∃ S : World → Prop, ∀ w', S w' ↔ (w'.cell? ⟨w.heap.size, 0, none⟩ = some (.int .i64 a1) ∧ w'.cell? ⟨w.heap.size, 1, none⟩ = some (.int .i64 a2) ∧ w'.cell? ⟨w.heap.size, 2, none⟩ = some (.int .i64 a3) ∧ w'.cell? ⟨w.heap.size, 3, none⟩ = some (.int .i64 a4) ∧ w'.cell? ⟨w.heap.size + 1, 0, none⟩ = some (.int .i64 b1) ∧ w'.cell? ⟨w.heap.size + 1, 1, none⟩ = some (.int .i64 b2) ∧ w'.cell? ⟨w.heap.size + 1, 2, none⟩ = some (.int .i64 b3) ∧ w'.cell? ⟨w.heap.size + 1, 3, none⟩ = some (.int .i64 b4)) := ⟨_, fun _ => Iff.rfl⟩
    have HSp : Hid (∀ w' : World, Bk w' (w.heap.size) #[.int .i64 a1, .int .i64 a2, .int .i64 a3, .int .i64 a4] 44 → Bk w' (w.heap.size + 1) #[.int .i64 b1, .int .i64 b2, .int .i64 b3, .int .i64 b4] 44 → S w') := Lib.hid (fun w' bA bB => (hSd w').2 ⟨bA.cell 0 rfl, bA.cell 1 rfl, bA.cell 2 rfl, bA.cell 3 rfl, bB.cell 0 rfl, bB.cell 1 rfl, bB.cell 2 rfl, bB.cell 3 rfl⟩)
    have HSd := Lib.hid hSd
    clear hSd
    refine wp_region_held_drew (S := S) (by kernel_rfl) ?_ (fun hH => ?_)
    · exact (HSp.out _ bA bB : S (World.drew w2))
    clear hH
    generalize hX : World.drew w2 = V0
    replace bA : Bk V0 (w.heap.size) #[.int .i64 a1, .int .i64 a2, .int .i64 a3, .int .i64 a4] 44 := by rw [← hX]; exact bA
    replace bB : Bk V0 (w.heap.size + 1) #[.int .i64 b1, .int .i64 b2, .int .i64 b3, .int .i64 b4] 44 := by rw [← hX]; exact bB
    have hb : Below w2.heap.size w2 V0 := by rw [← hX]; exact (Below.refl _ _).drew
    clear hX
    replace HW := Lib.hid (bel_end HW.out hb)
    clear hb
    have hS := HSp.out _ bA bB
    refine wpAnyH_take (i := 0) (oi := { dst := some 18, op := Go.Op.fieldAddr 44 (Go.Operand.tmp 3) 0, type := 0, pos := "l12_bearings.go:121", after := #[], guard := none }) (v := ?_) rfl (by kernel_rfl) (by kernel_rfl) (by kernel_rfl) (fun _ _ _ h => h) (Or.inl ⟨by rfl, ?_⟩) hS ?_
    rotate_left
    · (intro w hSw; have hSw := (HSd.out w).1 hSw; go_split_ands; go_simp) <;> with_reducible rfl
    clear hS
    try simp only [Act.put, List.setIfInBounds_toArray, List.set_cons_zero, List.set_cons_succ]
    have hS := HSp.out _ bA bB
    refine wpAnyH_take (i := 1) (oi := { dst := some 19, op := Go.Op.load 25 (Go.Operand.tmp 18), type := 25, pos := "l12_bearings.go:121", after := #[{ on := 0, ground := Go.Ground.data }], guard := none }) (v := ?_) rfl (by kernel_rfl) (by kernel_rfl) (by kernel_rfl) (fun _ _ _ h => h) (Or.inl ⟨by rfl, ?_⟩) hS ?_
    rotate_left
    · (intro w hSw; have hSw := (HSd.out w).1 hSw; go_split_ands; go_simp) <;> with_reducible rfl
    clear hS
    try simp only [Act.put, List.setIfInBounds_toArray, List.set_cons_zero, List.set_cons_succ]
    have hS := HSp.out _ bA bB
    refine wpAnyH_take (i := 2) (oi := { dst := some 20, op := Go.Op.fieldAddr 44 (Go.Operand.tmp 2) 0, type := 0, pos := "l12_bearings.go:121", after := #[], guard := none }) (v := ?_) rfl (by kernel_rfl) (by kernel_rfl) (by kernel_rfl) (fun _ _ _ h => h) (Or.inl ⟨by rfl, ?_⟩) hS ?_
    rotate_left
    · (intro w hSw; have hSw := (HSd.out w).1 hSw; go_split_ands; go_simp) <;> with_reducible rfl
    clear hS
    try simp only [Act.put, List.setIfInBounds_toArray, List.set_cons_zero, List.set_cons_succ]
    have hS := HSp.out _ bA bB
    refine wpAnyH_take (i := 3) (oi := { dst := some 21, op := Go.Op.load 25 (Go.Operand.tmp 20), type := 25, pos := "l12_bearings.go:121", after := #[{ on := 2, ground := Go.Ground.data }], guard := none }) (v := ?_) rfl (by kernel_rfl) (by kernel_rfl) (by kernel_rfl) (fun _ _ _ h => h) (Or.inl ⟨by rfl, ?_⟩) hS ?_
    rotate_left
    · (intro w hSw; have hSw := (HSd.out w).1 hSw; go_split_ands; go_simp) <;> with_reducible rfl
    clear hS
    try simp only [Act.put, List.setIfInBounds_toArray, List.set_cons_zero, List.set_cons_succ]
    have hS := HSp.out _ bA bB
    refine wpAnyH_take (i := 5) (oi := { dst := some 23, op := Go.Op.fieldAddr 44 (Go.Operand.tmp 3) 1, type := 0, pos := "l12_bearings.go:121", after := #[], guard := none }) (v := ?_) rfl (by kernel_rfl) (by kernel_rfl) (by kernel_rfl) (fun _ _ _ h => h) (Or.inl ⟨by rfl, ?_⟩) hS ?_
    rotate_left
    · (intro w hSw; have hSw := (HSd.out w).1 hSw; go_split_ands; go_simp) <;> with_reducible rfl
    clear hS
    try simp only [Act.put, List.setIfInBounds_toArray, List.set_cons_zero, List.set_cons_succ]
    have hS := HSp.out _ bA bB
    refine wpAnyH_take (i := 6) (oi := { dst := some 24, op := Go.Op.load 25 (Go.Operand.tmp 23), type := 25, pos := "l12_bearings.go:121", after := #[{ on := 5, ground := Go.Ground.data }], guard := none }) (v := ?_) rfl (by kernel_rfl) (by kernel_rfl) (by kernel_rfl) (fun _ _ _ h => h) (Or.inl ⟨by rfl, ?_⟩) hS ?_
    rotate_left
    · (intro w hSw; have hSw := (HSd.out w).1 hSw; go_split_ands; go_simp) <;> with_reducible rfl
    clear hS
    try simp only [Act.put, List.setIfInBounds_toArray, List.set_cons_zero, List.set_cons_succ]
    have hS := HSp.out _ bA bB
    refine wpAnyH_take (i := 7) (oi := { dst := some 25, op := Go.Op.fieldAddr 44 (Go.Operand.tmp 2) 1, type := 0, pos := "l12_bearings.go:121", after := #[], guard := none }) (v := ?_) rfl (by kernel_rfl) (by kernel_rfl) (by kernel_rfl) (fun _ _ _ h => h) (Or.inl ⟨by rfl, ?_⟩) hS ?_
    rotate_left
    · (intro w hSw; have hSw := (HSd.out w).1 hSw; go_split_ands; go_simp) <;> with_reducible rfl
    clear hS
    try simp only [Act.put, List.setIfInBounds_toArray, List.set_cons_zero, List.set_cons_succ]
    have hS := HSp.out _ bA bB
    refine wpAnyH_take (i := 8) (oi := { dst := some 26, op := Go.Op.load 25 (Go.Operand.tmp 25), type := 25, pos := "l12_bearings.go:121", after := #[{ on := 7, ground := Go.Ground.data }], guard := none }) (v := ?_) rfl (by kernel_rfl) (by kernel_rfl) (by kernel_rfl) (fun _ _ _ h => h) (Or.inl ⟨by rfl, ?_⟩) hS ?_
    rotate_left
    · (intro w hSw; have hSw := (HSd.out w).1 hSw; go_split_ands; go_simp) <;> with_reducible rfl
    clear hS
    try simp only [Act.put, List.setIfInBounds_toArray, List.set_cons_zero, List.set_cons_succ]
    refine wpAnyH_ready (rs := [4, 10, 11]) (by decide +kernel) (by simp) ?_
    refine AllReadyH.cons (o := { dst := some 22, op := Go.Op.call { callee := Go.Callee.value (Go.Operand.func 51), args := #[Go.Operand.tmp 19, Go.Operand.tmp 21], argTypes := #[25, 25] }, type := 25, pos := "l12_bearings.go:121", after := #[{ on := 1, ground := Go.Ground.data }, { on := 3, ground := Go.Ground.data }], guard := none }) rfl (fun Kn hK => ?_) ?_
    first | go_at_call 51 | (go_simp; go_at_call 51)
    (with_reducible refine Calls.mono (KL1.out  _) ?_)
    rintro e V1 ⟨rfl, hb⟩
    try dsimp only
    try simp only [Act.put, List.setIfInBounds_toArray, List.set_cons_zero, List.set_cons_succ]
    replace bA := bA.on hb
    replace bB := bB.on hb
    replace HW := Lib.hid (bel_end HW.out hb)
    clear hb
    refine hK.out _ _ (HSp.out _ bA bB) (fun _ => ?_)
    clear hK Kn
    rotate_left
    refine AllReadyH.cons (o := { dst := some 6, op := Go.Op.alloc 25, type := 0, pos := "l12_bearings.go:121", after := #[], guard := none }) rfl (fun Kn hK => ?_) ?_
    go_simp
    generalize hX : World.alloc V0 _ = V1
    obtain ⟨g10, hg⟩ : ∃ g, g = V0.heap.size := ⟨_, rfl⟩
    have bn10 : Bk V1 g10 #[.int .i64 0, .int .i64 0] 25 := by rw [← hX]; exact Bk.new' hg
    have le10 : w2.heap.size ≤ g10 := by rw [hg]; exact HW.out.size
    have nebA_10 : w.heap.size ≠ g10 := by have := bA.lt; omega
    have nebB_10 : w.heap.size + 1 ≠ g10 := by have := bB.lt; omega
    try rw [← hg]
    have hb : Below V0.heap.size V0 V1 := by rw [← hX]; exact (Below.refl _ _).alloc (Nat.le_refl _) _
    clear hX hg
    replace bA := bA.on hb
    replace bB := bB.on hb
    replace HW := Lib.hid (bel_end HW.out hb)
    clear hb
    refine hK.out _ _ (HSp.out _ bA bB) (fun _ => ?_)
    clear hK Kn
    rotate_left
    refine AllReadyH.cons (o := { dst := some 7, op := Go.Op.alloc 25, type := 0, pos := "l12_bearings.go:121", after := #[], guard := none }) rfl (fun Kn hK => ?_) AllReadyH.nil
    go_simp
    generalize hX : World.alloc V0 _ = V1
    obtain ⟨g11, hg⟩ : ∃ g, g = V0.heap.size := ⟨_, rfl⟩
    have bn11 : Bk V1 g11 #[.int .i64 0, .int .i64 0] 25 := by rw [← hX]; exact Bk.new' hg
    have le11 : w2.heap.size ≤ g11 := by rw [hg]; exact HW.out.size
    have nebA_11 : w.heap.size ≠ g11 := by have := bA.lt; omega
    have nebB_11 : w.heap.size + 1 ≠ g11 := by have := bB.lt; omega
    try rw [← hg]
    have hb : Below V0.heap.size V0 V1 := by rw [← hX]; exact (Below.refl _ _).alloc (Nat.le_refl _) _
    clear hX hg
    replace bA := bA.on hb
    replace bB := bB.on hb
    replace HW := Lib.hid (bel_end HW.out hb)
    clear hb
    refine hK.out _ _ (HSp.out _ bA bB) (fun _ => ?_)
    clear hK Kn
    all_goals
      first
      | (refine wpAnyH_ready (rs := [9, 10, 11]) (by decide +kernel) (by simp) ?_
         refine AllReadyH.cons (o := { dst := some 27, op := Go.Op.call { callee := Go.Callee.value (Go.Operand.func 51), args := #[Go.Operand.tmp 24, Go.Operand.tmp 26], argTypes := #[25, 25] }, type := 25, pos := "l12_bearings.go:121", after := #[{ on := 6, ground := Go.Ground.data }, { on := 8, ground := Go.Ground.data }, { on := 4, ground := Go.Ground.chain }], guard := none }) rfl (fun Kn hK => ?_) ?_
         first | go_at_call 51 | (go_simp; go_at_call 51)
         (with_reducible refine Calls.mono (KL2.out  _) ?_)
         rintro e V2 ⟨rfl, hb⟩
         try dsimp only
         try simp only [Act.put, List.setIfInBounds_toArray, List.set_cons_zero, List.set_cons_succ]
         replace bA := bA.on hb
         replace bB := bB.on hb
         replace HW := Lib.hid (bel_end HW.out hb)
         clear hb
         refine hK.out _ _ (HSp.out _ bA bB) (fun _ => ?_)
         clear hK Kn
         rotate_left
         refine AllReadyH.cons (o := { dst := some 6, op := Go.Op.alloc 25, type := 0, pos := "l12_bearings.go:121", after := #[], guard := none }) rfl (fun Kn hK => ?_) ?_
         go_simp
         generalize hX : World.alloc V1 _ = V2
         obtain ⟨g10, hg⟩ : ∃ g, g = V1.heap.size := ⟨_, rfl⟩
         have bn10 : Bk V2 g10 #[.int .i64 0, .int .i64 0] 25 := by rw [← hX]; exact Bk.new' hg
         have le10 : w2.heap.size ≤ g10 := by rw [hg]; exact HW.out.size
         have nebA_10 : w.heap.size ≠ g10 := by have := bA.lt; omega
         have nebB_10 : w.heap.size + 1 ≠ g10 := by have := bB.lt; omega
         try rw [← hg]
         have hb : Below V1.heap.size V1 V2 := by rw [← hX]; exact (Below.refl _ _).alloc (Nat.le_refl _) _
         clear hX hg
         replace bA := bA.on hb
         replace bB := bB.on hb
         replace HW := Lib.hid (bel_end HW.out hb)
         clear hb
         refine hK.out _ _ (HSp.out _ bA bB) (fun _ => ?_)
         clear hK Kn
         rotate_left
         refine AllReadyH.cons (o := { dst := some 7, op := Go.Op.alloc 25, type := 0, pos := "l12_bearings.go:121", after := #[], guard := none }) rfl (fun Kn hK => ?_) AllReadyH.nil
         go_simp
         generalize hX : World.alloc V1 _ = V2
         obtain ⟨g11, hg⟩ : ∃ g, g = V1.heap.size := ⟨_, rfl⟩
         have bn11 : Bk V2 g11 #[.int .i64 0, .int .i64 0] 25 := by rw [← hX]; exact Bk.new' hg
         have le11 : w2.heap.size ≤ g11 := by rw [hg]; exact HW.out.size
         have nebA_11 : w.heap.size ≠ g11 := by have := bA.lt; omega
         have nebB_11 : w.heap.size + 1 ≠ g11 := by have := bB.lt; omega
         try rw [← hg]
         have hb : Below V1.heap.size V1 V2 := by rw [← hX]; exact (Below.refl _ _).alloc (Nat.le_refl _) _
         clear hX hg
         replace bA := bA.on hb
         replace bB := bB.on hb
         replace HW := Lib.hid (bel_end HW.out hb)
         clear hb
         refine hK.out _ _ (HSp.out _ bA bB) (fun _ => ?_)
         clear hK Kn)
      | (refine wpAnyH_ready (rs := [4, 11]) (by decide +kernel) (by simp) ?_
         refine AllReadyH.cons (o := { dst := some 22, op := Go.Op.call { callee := Go.Callee.value (Go.Operand.func 51), args := #[Go.Operand.tmp 19, Go.Operand.tmp 21], argTypes := #[25, 25] }, type := 25, pos := "l12_bearings.go:121", after := #[{ on := 1, ground := Go.Ground.data }, { on := 3, ground := Go.Ground.data }], guard := none }) rfl (fun Kn hK => ?_) ?_
         first | go_at_call 51 | (go_simp; go_at_call 51)
         (with_reducible refine Calls.mono (KL1.out  _) ?_)
         rintro e V2 ⟨rfl, hb⟩
         try dsimp only
         try simp only [Act.put, List.setIfInBounds_toArray, List.set_cons_zero, List.set_cons_succ]
         replace bA := bA.on hb
         replace bB := bB.on hb
         replace bn10 := bn10.on hb
         replace HW := Lib.hid (bel_end HW.out hb)
         clear hb
         refine hK.out _ _ (HSp.out _ bA bB) (fun _ => ?_)
         clear hK Kn
         rotate_left
         refine AllReadyH.cons (o := { dst := some 7, op := Go.Op.alloc 25, type := 0, pos := "l12_bearings.go:121", after := #[], guard := none }) rfl (fun Kn hK => ?_) AllReadyH.nil
         go_simp
         generalize hX : World.alloc V1 _ = V2
         obtain ⟨g11, hg⟩ : ∃ g, g = V1.heap.size := ⟨_, rfl⟩
         have bn11 : Bk V2 g11 #[.int .i64 0, .int .i64 0] 25 := by rw [← hX]; exact Bk.new' hg
         have le11 : w2.heap.size ≤ g11 := by rw [hg]; exact HW.out.size
         have nebA_11 : w.heap.size ≠ g11 := by have := bA.lt; omega
         have nebB_11 : w.heap.size + 1 ≠ g11 := by have := bB.lt; omega
         have ne10_11 : g10 ≠ g11 := by have := bn10.lt; omega
         try rw [← hg]
         have hb : Below V1.heap.size V1 V2 := by rw [← hX]; exact (Below.refl _ _).alloc (Nat.le_refl _) _
         clear hX hg
         replace bA := bA.on hb
         replace bB := bB.on hb
         replace bn10 := bn10.on hb
         replace HW := Lib.hid (bel_end HW.out hb)
         clear hb
         refine hK.out _ _ (HSp.out _ bA bB) (fun _ => ?_)
         clear hK Kn)
      | (refine wpAnyH_ready (rs := [4, 10]) (by decide +kernel) (by simp) ?_
         refine AllReadyH.cons (o := { dst := some 22, op := Go.Op.call { callee := Go.Callee.value (Go.Operand.func 51), args := #[Go.Operand.tmp 19, Go.Operand.tmp 21], argTypes := #[25, 25] }, type := 25, pos := "l12_bearings.go:121", after := #[{ on := 1, ground := Go.Ground.data }, { on := 3, ground := Go.Ground.data }], guard := none }) rfl (fun Kn hK => ?_) ?_
         first | go_at_call 51 | (go_simp; go_at_call 51)
         (with_reducible refine Calls.mono (KL1.out  _) ?_)
         rintro e V2 ⟨rfl, hb⟩
         try dsimp only
         try simp only [Act.put, List.setIfInBounds_toArray, List.set_cons_zero, List.set_cons_succ]
         replace bA := bA.on hb
         replace bB := bB.on hb
         replace bn11 := bn11.on hb
         replace HW := Lib.hid (bel_end HW.out hb)
         clear hb
         refine hK.out _ _ (HSp.out _ bA bB) (fun _ => ?_)
         clear hK Kn
         rotate_left
         refine AllReadyH.cons (o := { dst := some 6, op := Go.Op.alloc 25, type := 0, pos := "l12_bearings.go:121", after := #[], guard := none }) rfl (fun Kn hK => ?_) AllReadyH.nil
         go_simp
         generalize hX : World.alloc V1 _ = V2
         obtain ⟨g10, hg⟩ : ∃ g, g = V1.heap.size := ⟨_, rfl⟩
         have bn10 : Bk V2 g10 #[.int .i64 0, .int .i64 0] 25 := by rw [← hX]; exact Bk.new' hg
         have le10 : w2.heap.size ≤ g10 := by rw [hg]; exact HW.out.size
         have nebA_10 : w.heap.size ≠ g10 := by have := bA.lt; omega
         have nebB_10 : w.heap.size + 1 ≠ g10 := by have := bB.lt; omega
         have ne10_11 : g10 ≠ g11 := by have := bn11.lt; omega
         try rw [← hg]
         have hb : Below V1.heap.size V1 V2 := by rw [← hX]; exact (Below.refl _ _).alloc (Nat.le_refl _) _
         clear hX hg
         replace bA := bA.on hb
         replace bB := bB.on hb
         replace bn11 := bn11.on hb
         replace HW := Lib.hid (bel_end HW.out hb)
         clear hb
         refine hK.out _ _ (HSp.out _ bA bB) (fun _ => ?_)
         clear hK Kn)
    all_goals
      first
      | (refine wpAnyH_ready (rs := [10, 11]) (by decide +kernel) (by simp) ?_
         refine AllReadyH.cons (o := { dst := some 6, op := Go.Op.alloc 25, type := 0, pos := "l12_bearings.go:121", after := #[], guard := none }) rfl (fun Kn hK => ?_) ?_
         go_simp
         generalize hX : World.alloc V2 _ = V3
         obtain ⟨g10, hg⟩ : ∃ g, g = V2.heap.size := ⟨_, rfl⟩
         have bn10 : Bk V3 g10 #[.int .i64 0, .int .i64 0] 25 := by rw [← hX]; exact Bk.new' hg
         have le10 : w2.heap.size ≤ g10 := by rw [hg]; exact HW.out.size
         have nebA_10 : w.heap.size ≠ g10 := by have := bA.lt; omega
         have nebB_10 : w.heap.size + 1 ≠ g10 := by have := bB.lt; omega
         try rw [← hg]
         have hb : Below V2.heap.size V2 V3 := by rw [← hX]; exact (Below.refl _ _).alloc (Nat.le_refl _) _
         clear hX hg
         replace bA := bA.on hb
         replace bB := bB.on hb
         replace HW := Lib.hid (bel_end HW.out hb)
         clear hb
         refine hK.out _ _ (HSp.out _ bA bB) (fun _ => ?_)
         clear hK Kn
         rotate_left
         refine AllReadyH.cons (o := { dst := some 7, op := Go.Op.alloc 25, type := 0, pos := "l12_bearings.go:121", after := #[], guard := none }) rfl (fun Kn hK => ?_) AllReadyH.nil
         go_simp
         generalize hX : World.alloc V2 _ = V3
         obtain ⟨g11, hg⟩ : ∃ g, g = V2.heap.size := ⟨_, rfl⟩
         have bn11 : Bk V3 g11 #[.int .i64 0, .int .i64 0] 25 := by rw [← hX]; exact Bk.new' hg
         have le11 : w2.heap.size ≤ g11 := by rw [hg]; exact HW.out.size
         have nebA_11 : w.heap.size ≠ g11 := by have := bA.lt; omega
         have nebB_11 : w.heap.size + 1 ≠ g11 := by have := bB.lt; omega
         try rw [← hg]
         have hb : Below V2.heap.size V2 V3 := by rw [← hX]; exact (Below.refl _ _).alloc (Nat.le_refl _) _
         clear hX hg
         replace bA := bA.on hb
         replace bB := bB.on hb
         replace HW := Lib.hid (bel_end HW.out hb)
         clear hb
         refine hK.out _ _ (HSp.out _ bA bB) (fun _ => ?_)
         clear hK Kn)
      | (refine wpAnyH_ready (rs := [9, 11]) (by decide +kernel) (by simp) ?_
         refine AllReadyH.cons (o := { dst := some 27, op := Go.Op.call { callee := Go.Callee.value (Go.Operand.func 51), args := #[Go.Operand.tmp 24, Go.Operand.tmp 26], argTypes := #[25, 25] }, type := 25, pos := "l12_bearings.go:121", after := #[{ on := 6, ground := Go.Ground.data }, { on := 8, ground := Go.Ground.data }, { on := 4, ground := Go.Ground.chain }], guard := none }) rfl (fun Kn hK => ?_) ?_
         first | go_at_call 51 | (go_simp; go_at_call 51)
         (with_reducible refine Calls.mono (KL2.out  _) ?_)
         rintro e V3 ⟨rfl, hb⟩
         try dsimp only
         try simp only [Act.put, List.setIfInBounds_toArray, List.set_cons_zero, List.set_cons_succ]
         replace bA := bA.on hb
         replace bB := bB.on hb
         replace bn10 := bn10.on hb
         replace HW := Lib.hid (bel_end HW.out hb)
         clear hb
         refine hK.out _ _ (HSp.out _ bA bB) (fun _ => ?_)
         clear hK Kn
         rotate_left
         refine AllReadyH.cons (o := { dst := some 7, op := Go.Op.alloc 25, type := 0, pos := "l12_bearings.go:121", after := #[], guard := none }) rfl (fun Kn hK => ?_) AllReadyH.nil
         go_simp
         generalize hX : World.alloc V2 _ = V3
         obtain ⟨g11, hg⟩ : ∃ g, g = V2.heap.size := ⟨_, rfl⟩
         have bn11 : Bk V3 g11 #[.int .i64 0, .int .i64 0] 25 := by rw [← hX]; exact Bk.new' hg
         have le11 : w2.heap.size ≤ g11 := by rw [hg]; exact HW.out.size
         have nebA_11 : w.heap.size ≠ g11 := by have := bA.lt; omega
         have nebB_11 : w.heap.size + 1 ≠ g11 := by have := bB.lt; omega
         have ne10_11 : g10 ≠ g11 := by have := bn10.lt; omega
         try rw [← hg]
         have hb : Below V2.heap.size V2 V3 := by rw [← hX]; exact (Below.refl _ _).alloc (Nat.le_refl _) _
         clear hX hg
         replace bA := bA.on hb
         replace bB := bB.on hb
         replace bn10 := bn10.on hb
         replace HW := Lib.hid (bel_end HW.out hb)
         clear hb
         refine hK.out _ _ (HSp.out _ bA bB) (fun _ => ?_)
         clear hK Kn)
      | (refine wpAnyH_ready (rs := [9, 10]) (by decide +kernel) (by simp) ?_
         refine AllReadyH.cons (o := { dst := some 27, op := Go.Op.call { callee := Go.Callee.value (Go.Operand.func 51), args := #[Go.Operand.tmp 24, Go.Operand.tmp 26], argTypes := #[25, 25] }, type := 25, pos := "l12_bearings.go:121", after := #[{ on := 6, ground := Go.Ground.data }, { on := 8, ground := Go.Ground.data }, { on := 4, ground := Go.Ground.chain }], guard := none }) rfl (fun Kn hK => ?_) ?_
         first | go_at_call 51 | (go_simp; go_at_call 51)
         (with_reducible refine Calls.mono (KL2.out  _) ?_)
         rintro e V3 ⟨rfl, hb⟩
         try dsimp only
         try simp only [Act.put, List.setIfInBounds_toArray, List.set_cons_zero, List.set_cons_succ]
         replace bA := bA.on hb
         replace bB := bB.on hb
         replace bn11 := bn11.on hb
         replace HW := Lib.hid (bel_end HW.out hb)
         clear hb
         refine hK.out _ _ (HSp.out _ bA bB) (fun _ => ?_)
         clear hK Kn
         rotate_left
         refine AllReadyH.cons (o := { dst := some 6, op := Go.Op.alloc 25, type := 0, pos := "l12_bearings.go:121", after := #[], guard := none }) rfl (fun Kn hK => ?_) AllReadyH.nil
         go_simp
         generalize hX : World.alloc V2 _ = V3
         obtain ⟨g10, hg⟩ : ∃ g, g = V2.heap.size := ⟨_, rfl⟩
         have bn10 : Bk V3 g10 #[.int .i64 0, .int .i64 0] 25 := by rw [← hX]; exact Bk.new' hg
         have le10 : w2.heap.size ≤ g10 := by rw [hg]; exact HW.out.size
         have nebA_10 : w.heap.size ≠ g10 := by have := bA.lt; omega
         have nebB_10 : w.heap.size + 1 ≠ g10 := by have := bB.lt; omega
         have ne10_11 : g10 ≠ g11 := by have := bn11.lt; omega
         try rw [← hg]
         have hb : Below V2.heap.size V2 V3 := by rw [← hX]; exact (Below.refl _ _).alloc (Nat.le_refl _) _
         clear hX hg
         replace bA := bA.on hb
         replace bB := bB.on hb
         replace bn11 := bn11.on hb
         replace HW := Lib.hid (bel_end HW.out hb)
         clear hb
         refine hK.out _ _ (HSp.out _ bA bB) (fun _ => ?_)
         clear hK Kn)
      | (refine wpAnyH_ready (rs := [4]) (by decide +kernel) (by simp) ?_
         refine AllReadyH.cons (o := { dst := some 22, op := Go.Op.call { callee := Go.Callee.value (Go.Operand.func 51), args := #[Go.Operand.tmp 19, Go.Operand.tmp 21], argTypes := #[25, 25] }, type := 25, pos := "l12_bearings.go:121", after := #[{ on := 1, ground := Go.Ground.data }, { on := 3, ground := Go.Ground.data }], guard := none }) rfl (fun Kn hK => ?_) AllReadyH.nil
         first | go_at_call 51 | (go_simp; go_at_call 51)
         (with_reducible refine Calls.mono (KL1.out  _) ?_)
         rintro e V3 ⟨rfl, hb⟩
         try dsimp only
         try simp only [Act.put, List.setIfInBounds_toArray, List.set_cons_zero, List.set_cons_succ]
         replace bA := bA.on hb
         replace bB := bB.on hb
         replace bn10 := bn10.on hb
         replace bn11 := bn11.on hb
         replace HW := Lib.hid (bel_end HW.out hb)
         clear hb
         refine hK.out _ _ (HSp.out _ bA bB) (fun _ => ?_)
         clear hK Kn)
    all_goals
      first
      | (refine wpAnyH_ready (rs := [11]) (by decide +kernel) (by simp) ?_
         refine AllReadyH.cons (o := { dst := some 7, op := Go.Op.alloc 25, type := 0, pos := "l12_bearings.go:121", after := #[], guard := none }) rfl (fun Kn hK => ?_) AllReadyH.nil
         go_simp
         generalize hX : World.alloc V3 _ = V4
         obtain ⟨g11, hg⟩ : ∃ g, g = V3.heap.size := ⟨_, rfl⟩
         have bn11 : Bk V4 g11 #[.int .i64 0, .int .i64 0] 25 := by rw [← hX]; exact Bk.new' hg
         have le11 : w2.heap.size ≤ g11 := by rw [hg]; exact HW.out.size
         have nebA_11 : w.heap.size ≠ g11 := by have := bA.lt; omega
         have nebB_11 : w.heap.size + 1 ≠ g11 := by have := bB.lt; omega
         have ne10_11 : g10 ≠ g11 := by have := bn10.lt; omega
         try rw [← hg]
         have hb : Below V3.heap.size V3 V4 := by rw [← hX]; exact (Below.refl _ _).alloc (Nat.le_refl _) _
         clear hX hg
         replace bA := bA.on hb
         replace bB := bB.on hb
         replace bn10 := bn10.on hb
         replace HW := Lib.hid (bel_end HW.out hb)
         clear hb
         refine hK.out _ _ (HSp.out _ bA bB) (fun _ => ?_)
         clear hK Kn)
      | (refine wpAnyH_ready (rs := [10]) (by decide +kernel) (by simp) ?_
         refine AllReadyH.cons (o := { dst := some 6, op := Go.Op.alloc 25, type := 0, pos := "l12_bearings.go:121", after := #[], guard := none }) rfl (fun Kn hK => ?_) AllReadyH.nil
         go_simp
         generalize hX : World.alloc V3 _ = V4
         obtain ⟨g10, hg⟩ : ∃ g, g = V3.heap.size := ⟨_, rfl⟩
         have bn10 : Bk V4 g10 #[.int .i64 0, .int .i64 0] 25 := by rw [← hX]; exact Bk.new' hg
         have le10 : w2.heap.size ≤ g10 := by rw [hg]; exact HW.out.size
         have nebA_10 : w.heap.size ≠ g10 := by have := bA.lt; omega
         have nebB_10 : w.heap.size + 1 ≠ g10 := by have := bB.lt; omega
         have ne10_11 : g10 ≠ g11 := by have := bn11.lt; omega
         try rw [← hg]
         have hb : Below V3.heap.size V3 V4 := by rw [← hX]; exact (Below.refl _ _).alloc (Nat.le_refl _) _
         clear hX hg
         replace bA := bA.on hb
         replace bB := bB.on hb
         replace bn11 := bn11.on hb
         replace HW := Lib.hid (bel_end HW.out hb)
         clear hb
         refine hK.out _ _ (HSp.out _ bA bB) (fun _ => ?_)
         clear hK Kn)
      | (refine wpAnyH_ready (rs := [9]) (by decide +kernel) (by simp) ?_
         refine AllReadyH.cons (o := { dst := some 27, op := Go.Op.call { callee := Go.Callee.value (Go.Operand.func 51), args := #[Go.Operand.tmp 24, Go.Operand.tmp 26], argTypes := #[25, 25] }, type := 25, pos := "l12_bearings.go:121", after := #[{ on := 6, ground := Go.Ground.data }, { on := 8, ground := Go.Ground.data }, { on := 4, ground := Go.Ground.chain }], guard := none }) rfl (fun Kn hK => ?_) AllReadyH.nil
         first | go_at_call 51 | (go_simp; go_at_call 51)
         (with_reducible refine Calls.mono (KL2.out  _) ?_)
         rintro e V4 ⟨rfl, hb⟩
         try dsimp only
         try simp only [Act.put, List.setIfInBounds_toArray, List.set_cons_zero, List.set_cons_succ]
         replace bA := bA.on hb
         replace bB := bB.on hb
         replace bn10 := bn10.on hb
         replace bn11 := bn11.on hb
         replace HW := Lib.hid (bel_end HW.out hb)
         clear hb
         refine hK.out _ _ (HSp.out _ bA bB) (fun _ => ?_)
         clear hK Kn)
    all_goals
      refine wpAnyH_ready (rs := [12]) (by decide +kernel) (by simp) ?_
      refine AllReadyH.cons (o := { dst := none, op := Go.Op.store 25 (Go.Operand.tmp 6) (Go.Operand.tmp 22), type := 0, pos := "l12_bearings.go:121", after := #[{ on := 10, ground := Go.Ground.data }, { on := 4, ground := Go.Ground.data }, { on := 9, ground := Go.Ground.chain }, { on := 0, ground := Go.Ground.phase }, { on := 1, ground := Go.Ground.phase }, { on := 2, ground := Go.Ground.phase }, { on := 3, ground := Go.Ground.phase }, { on := 4, ground := Go.Ground.phase }, { on := 5, ground := Go.Ground.textOnly Go.Departure.lateStores }, { on := 6, ground := Go.Ground.textOnly Go.Departure.lateStores }, { on := 7, ground := Go.Ground.textOnly Go.Departure.lateStores }, { on := 8, ground := Go.Ground.textOnly Go.Departure.lateStores }, { on := 9, ground := Go.Ground.textOnly Go.Departure.lateStoresUnsure }, { on := 10, ground := Go.Ground.phase }, { on := 11, ground := Go.Ground.phase }], guard := none }) rfl (fun Kn hK => ?_) AllReadyH.nil
      have bn10_0 := bn10.cell 0 rfl
      have bn10_1 := bn10.cell 1 rfl
      have bn10_f0 := bn10.frozen 0
      have bn10_f1 := bn10.frozen 1
      have bn10_l := bn10.lt
      go_simp
      clear bn10_0 bn10_f0 bn10_1 bn10_f1 bn10_l
      generalize hX : World.setCell _ _ _ = V5
      have hb : Below w2.heap.size w2 V5 := by rw [← hX]; exact ((HW.out.setCell (p := ⟨g10, 0, none⟩) le10 _).setCell (p := ⟨g10, 1, none⟩) le10 _)
      replace bA : Bk V5 (w.heap.size) #[.int .i64 a1, .int .i64 a2, .int .i64 a3, .int .i64 a4] 44 := by rw [← hX]; exact (Bk.other (Bk.other bA nebA_10 0 _) nebA_10 1 _)
      replace bB : Bk V5 (w.heap.size + 1) #[.int .i64 b1, .int .i64 b2, .int .i64 b3, .int .i64 b4] 44 := by rw [← hX]; exact (Bk.other (Bk.other bB nebB_10 0 _) nebB_10 1 _)
      replace bn11 : Bk V5 (g11) #[.int .i64 0, .int .i64 0] 25 := by rw [← hX]; exact (Bk.other (Bk.other bn11 (Ne.symm ne10_11) 0 _) (Ne.symm ne10_11) 1 _)
      replace bn10 : Bk V5 (g10) #[.int .i64 X, .int .i64 Y] 25 := by rw [← hX]; exact (Bk.set (Bk.set bn10 0 _ rfl) 1 _ rfl)
      clear hX
      replace HW := Lib.hid hb
      clear hb
      refine hK.out _ _ (HSp.out _ bA bB) (fun _ => ?_)
      clear hK Kn
    all_goals
      refine wpAnyH_ready (rs := [13]) (by decide +kernel) (by simp) ?_
      refine AllReadyH.cons (o := { dst := none, op := Go.Op.store 25 (Go.Operand.tmp 7) (Go.Operand.tmp 27), type := 0, pos := "l12_bearings.go:121", after := #[{ on := 11, ground := Go.Ground.data }, { on := 9, ground := Go.Ground.data }, { on := 12, ground := Go.Ground.chain }, { on := 0, ground := Go.Ground.phase }, { on := 1, ground := Go.Ground.phase }, { on := 2, ground := Go.Ground.phase }, { on := 3, ground := Go.Ground.phase }, { on := 4, ground := Go.Ground.phase }, { on := 5, ground := Go.Ground.phase }, { on := 6, ground := Go.Ground.phase }, { on := 7, ground := Go.Ground.phase }, { on := 8, ground := Go.Ground.phase }, { on := 9, ground := Go.Ground.phase }, { on := 10, ground := Go.Ground.phase }, { on := 11, ground := Go.Ground.phase }, { on := 12, ground := Go.Ground.phase }], guard := none }) rfl (fun Kn hK => ?_) AllReadyH.nil
      have bn11_0 := bn11.cell 0 rfl
      have bn11_1 := bn11.cell 1 rfl
      have bn11_f0 := bn11.frozen 0
      have bn11_f1 := bn11.frozen 1
      have bn11_l := bn11.lt
      go_simp
      clear bn11_0 bn11_f0 bn11_1 bn11_f1 bn11_l
      generalize hX : World.setCell _ _ _ = V6
      have hb : Below w2.heap.size w2 V6 := by rw [← hX]; exact ((HW.out.setCell (p := ⟨g11, 0, none⟩) le11 _).setCell (p := ⟨g11, 1, none⟩) le11 _)
      replace bA : Bk V6 (w.heap.size) #[.int .i64 a1, .int .i64 a2, .int .i64 a3, .int .i64 a4] 44 := by rw [← hX]; exact (Bk.other (Bk.other bA nebA_11 0 _) nebA_11 1 _)
      replace bB : Bk V6 (w.heap.size + 1) #[.int .i64 b1, .int .i64 b2, .int .i64 b3, .int .i64 b4] 44 := by rw [← hX]; exact (Bk.other (Bk.other bB nebB_11 0 _) nebB_11 1 _)
      replace bn10 : Bk V6 (g10) #[.int .i64 X, .int .i64 Y] 25 := by rw [← hX]; exact (Bk.other (Bk.other bn10 ne10_11 0 _) ne10_11 1 _)
      replace bn11 : Bk V6 (g11) #[.int .i64 M, .int .i64 N] 25 := by rw [← hX]; exact (Bk.set (Bk.set bn11 0 _ rfl) 1 _ rfl)
      clear hX
      replace HW := Lib.hid hb
      clear hb
      refine hK.out _ _ (HSp.out _ bA bB) (fun _ => ?_)
      clear hK Kn
    all_goals
      refine wpAnyH_done (by kernel_rfl) ?_ _
      go_wp2_with fail
      go_meet
      exact ⟨⟨_, _, rfl, rfl, bn10, bn11, le10, le11⟩, HW.out⟩
  case rest =>
    obtain ⟨hx, hb⟩ := hcut
    replace bA := bA.on hb
    replace bB := bB.on hb
    replace bR := bR.on hb
    replace HB := Lib.hid (bel_end HB.out hb)
    clear hb
    obtain ⟨g1, g2, rfl, rfl, b_1, b_2, hg1, hg2⟩ := hx
    have ne1_bR : g1 ≠ w.heap.size + 1 + 1 := by have := HB0.out; omega
    have ne2_bR : g2 ≠ w.heap.size + 1 + 1 := by have := HB0.out; omega
    clear bA bB
    have bR_0 := bR.cell 0 rfl
    have bR_1 := bR.cell 1 rfl
    have bR_l := bR.lt
    have b_1_0 := b_1.cell 0 rfl
    have b_1_1 := b_1.cell 1 rfl
    have b_1_l := b_1.lt
    have b_2_0 := b_2.cell 0 rfl
    have b_2_1 := b_2.cell 1 rfl
    have b_2_l := b_2.lt
    go_wp2_with fail
    refine (K1.out _).mono ?_
    rintro e w3 ⟨rfl, hb⟩
    replace bR := bR.on hb
    replace b_1 := b_1.on hb
    replace b_2 := b_2.on hb
    replace HB := Lib.hid (bel_end HB.out hb)
    clear hb
    clear bR_0 bR_1 bR_l b_1_0 b_1_1 b_1_l b_2_0 b_2_1 b_2_l
    by_cases hd : 0 ≤ D
    case pos =>
      rw [if_pos hd, if_pos hd] at HT0
      obtain ⟨⟨u, v, e⟩, hT⟩ : ∃ T, rlT E 1 = T := ⟨_, rfl⟩
      have KL : Hid (∀ W : World, Calls Try.prog 59 #[.int .i64 E, .int .i64 1] W fun e' w' => e' = .returned (.tuple #[.agg #[.int .i64 u, .int .i64 v], .int .i64 e]) ∧ Below W.heap.size W w') := Lib.hid (fun W => lrl_is hT (by omega) (by omega) (by omega) (by omega) (by omega) W)
      have HT := Lib.hid (HT0.trans hT)
      clear HT0 hT ld d cb
      have bR_0 := bR.cell 0 rfl
      have bR_1 := bR.cell 1 rfl
      have bR_l := bR.lt
      have b_1_0 := b_1.cell 0 rfl
      have b_1_1 := b_1.cell 1 rfl
      have b_1_l := b_1.lt
      have b_2_0 := b_2.cell 0 rfl
      have b_2_1 := b_2.cell 1 rfl
      have b_2_l := b_2.lt
      go_wp2_with fail
      refine (K2.out _).mono ?_
      rintro e w4 ⟨rfl, hb⟩
      replace bR := bR.on hb
      replace b_1 := b_1.on hb
      replace b_2 := b_2.on hb
      replace HB := Lib.hid (bel_end HB.out hb)
      clear hb
      clear bR_0 bR_1 bR_l b_1_0 b_1_1 b_1_l b_2_0 b_2_1 b_2_l
      have bR_0 := bR.cell 0 rfl
      have bR_1 := bR.cell 1 rfl
      have bR_l := bR.lt
      have b_1_0 := b_1.cell 0 rfl
      have b_1_1 := b_1.cell 1 rfl
      have b_1_l := b_1.lt
      have b_2_0 := b_2.cell 0 rfl
      have b_2_1 := b_2.cell 1 rfl
      have b_2_l := b_2.lt
      go_wp2_with fail
      refine (KL.out _).mono ?_
      rintro e w5 ⟨rfl, hb⟩
      replace bR := bR.on hb
      replace b_1 := b_1.on hb
      replace b_2 := b_2.on hb
      replace HB := Lib.hid (bel_end HB.out hb)
      clear hb
      clear bR_0 bR_1 bR_l b_1_0 b_1_1 b_1_l b_2_0 b_2_1 b_2_l
      have bR_0 := bR.cell 0 rfl
      have bR_1 := bR.cell 1 rfl
      have bR_l := bR.lt
      have b_1_0 := b_1.cell 0 rfl
      have b_1_1 := b_1.cell 1 rfl
      have b_1_l := b_1.lt
      have b_2_0 := b_2.cell 0 rfl
      have b_2_1 := b_2.cell 1 rfl
      have b_2_l := b_2.lt
      have bR_f0 := bR.frozen 0
      have bR_f1 := bR.frozen 1
      go_wp2
      exact bodyPost_ret (v := .tuple #[.agg #[.int .i64 u, .int .i64 v], .int .i64 e]) (by simp [results, Try.results32, go_sem, bR_0, bR_f0, bR_1, bR_f1, bR_l]) rfl ⟨res3r HT.out, (by repeat (first | exact HB.out | (refine Below.setCell ?_ (by simp <;> omega) _) | (refine Below.alloc ?_ (by simp <;> omega) _) | (refine Below.drew ?_)))⟩
    case neg =>
      rw [if_neg hd, if_neg hd] at HT0
      rw [if_neg hd] at ld
      obtain ⟨⟨u, v, e⟩, hT⟩ : ∃ T, rlT Z F = T := ⟨_, rfl⟩
      have KL : Hid (∀ W : World, Calls Try.prog 59 #[.int .i64 Z, .int .i64 F] W fun e' w' => e' = .returned (.tuple #[.agg #[.int .i64 u, .int .i64 v], .int .i64 e]) ∧ Below W.heap.size W w') := Lib.hid (fun W => lrl_is hT (by omega) (by omega) (by omega) (by omega) (by omega) W)
      have HT := Lib.hid (HT0.trans hT)
      clear HT0 hT ld d cb
      have bR_0 := bR.cell 0 rfl
      have bR_1 := bR.cell 1 rfl
      have bR_l := bR.lt
      have b_1_0 := b_1.cell 0 rfl
      have b_1_1 := b_1.cell 1 rfl
      have b_1_l := b_1.lt
      have b_2_0 := b_2.cell 0 rfl
      have b_2_1 := b_2.cell 1 rfl
      have b_2_l := b_2.lt
      go_wp2_with fail
      refine (K4.out _).mono ?_
      rintro e w4 ⟨rfl, hb⟩
      replace bR := bR.on hb
      replace b_1 := b_1.on hb
      replace b_2 := b_2.on hb
      replace HB := Lib.hid (bel_end HB.out hb)
      clear hb
      clear bR_0 bR_1 bR_l b_1_0 b_1_1 b_1_l b_2_0 b_2_1 b_2_l
      have bR_0 := bR.cell 0 rfl
      have bR_1 := bR.cell 1 rfl
      have bR_l := bR.lt
      have b_1_0 := b_1.cell 0 rfl
      have b_1_1 := b_1.cell 1 rfl
      have b_1_l := b_1.lt
      have b_2_0 := b_2.cell 0 rfl
      have b_2_1 := b_2.cell 1 rfl
      have b_2_l := b_2.lt
      go_wp2_with fail
      refine (K3.out _).mono ?_
      rintro e w5 ⟨rfl, hb⟩
      replace bR := bR.on hb
      replace b_1 := b_1.on hb
      replace b_2 := b_2.on hb
      replace HB := Lib.hid (bel_end HB.out hb)
      clear hb
      clear bR_0 bR_1 bR_l b_1_0 b_1_1 b_1_l b_2_0 b_2_1 b_2_l
      have bR_0 := bR.cell 0 rfl
      have bR_1 := bR.cell 1 rfl
      have bR_l := bR.lt
      have b_1_0 := b_1.cell 0 rfl
      have b_1_1 := b_1.cell 1 rfl
      have b_1_l := b_1.lt
      have b_2_0 := b_2.cell 0 rfl
      have b_2_1 := b_2.cell 1 rfl
      have b_2_l := b_2.lt
      go_wp2_with fail
      refine (KL.out _).mono ?_
      rintro e w6 ⟨rfl, hb⟩
      replace bR := bR.on hb
      replace b_1 := b_1.on hb
      replace b_2 := b_2.on hb
      replace HB := Lib.hid (bel_end HB.out hb)
      clear hb
      clear bR_0 bR_1 bR_l b_1_0 b_1_1 b_1_l b_2_0 b_2_1 b_2_l
      have bR_0 := bR.cell 0 rfl
      have bR_1 := bR.cell 1 rfl
      have bR_l := bR.lt
      have b_1_0 := b_1.cell 0 rfl
      have b_1_1 := b_1.cell 1 rfl
      have b_1_l := b_1.lt
      have b_2_0 := b_2.cell 0 rfl
      have b_2_1 := b_2.cell 1 rfl
      have b_2_l := b_2.lt
      have bR_f0 := bR.frozen 0
      have bR_f1 := bR.frozen 1
      go_wp2
      exact bodyPost_ret (v := .tuple #[.agg #[.int .i64 u, .int .i64 v], .int .i64 e]) (by simp [results, Try.results32, go_sem, bR_0, bR_f0, bR_1, bR_f1, bR_l]) rfl ⟨res3r HT.out, (by repeat (first | exact HB.out | (refine Below.setCell ?_ (by simp <;> omega) _) | (refine Below.alloc ?_ (by simp <;> omega) _) | (refine Below.drew ?_)))⟩

theorem scs_any (w : World) (a1 a2 a3 a4 b1 b2 b3 b4 : Int) : Calls Try.prog 32 #[.agg #[.int .i64 a1, .int .i64 a2, .int .i64 a3, .int .i64 a4], .agg #[.int .i64 b1, .int .i64 b2, .int .i64 b3, .int .i64 b4]] w fun e w' => e = .returned (.tuple #[.agg #[.int .i64 (csR a1 a2 a3 a4 b1 b2 b3 b4).1, .int .i64 (csR a1 a2 a3 a4 b1 b2 b3 b4).2.1], .int .i64 (csR a1 a2 a3 a4 b1 b2 b3 b4).2.2]) ∧ Below w.heap.size w w' := by
  cases hok : okT a1 a2 a3 a4 b1 b2 b3 b4
  · exact scs_no w a1 a2 a3 a4 b1 b2 b3 b4 hok
  · exact scs_ok w a1 a2 a3 a4 b1 b2 b3 b4 hok

set_option maxRecDepth 100000 in
set_option maxHeartbeats 8000000 in
theorem sdm_no (w : World) (a1 a2 a3 a4 b1 b2 b3 b4 : Int) (hok : okT a1 a2 a3 a4 b1 b2 b3 b4 = false) :
    Calls Try.prog 36 #[.agg #[.int .i64 a1, .int .i64 a2, .int .i64 a3, .int .i64 a4], .agg #[.int .i64 b1, .int .i64 b2, .int .i64 b3, .int .i64 b4]] w fun e w' => e = .returned (.tuple #[.bool (dmB a1 a2 a3 a4 b1 b2 b3 b4), .int .i64 (dmC a1 a2 a3 a4 b1 b2 b3 b4)]) ∧ Below w.heap.size w w' := by
  have HT : Hid (dmB a1 a2 a3 a4 b1 b2 b3 b4 = false ∧ dmC a1 a2 a3 a4 b1 b2 b3 b4 = 1) := Lib.hid (by unfold dmB dmC; rw [hok]; exact ⟨rfl, rfl⟩)
  obtain ⟨P, hP⟩ : ∃ q, tkB a1 a2 a3 a4 = q := ⟨_, rfl⟩
  obtain ⟨R, hR⟩ : ∃ q, tkB b1 b2 b3 b4 = q := ⟨_, rfl⟩
  unfold okT at hok
  rw [hP, hR] at hok
  have HO := Lib.hid hok
  have KA : Hid (∀ W : World, Calls Try.prog 62 #[.agg #[.int .i64 a1, .int .i64 a2, .int .i64 a3, .int .i64 a4]] W fun e w' => e = .returned (.bool P) ∧ Below W.heap.size W w') := Lib.hid (fun W => by have := ltk_any W a1 a2 a3 a4; rwa [hP] at this)
  have KB : Hid (∀ W : World, Calls Try.prog 62 #[.agg #[.int .i64 b1, .int .i64 b2, .int .i64 b3, .int .i64 b4]] W fun e w' => e = .returned (.bool R) ∧ Below W.heap.size W w') := Lib.hid (fun W => by have := ltk_any W b1 b2 b3 b4; rwa [hR] at this)
  clear hP hR hok
  go_enter Try.func36, Try.ntmps36
  go_wp2_with fail
  generalize hW : World.alloc _ _ = W
  have bA : Bk W (w.heap.size) #[.int .i64 a1, .int .i64 a2, .int .i64 a3, .int .i64 a4] 44 := by rw [← hW]; repeat (first | (refine Bk.new' ?_; (simp; done)) | refine Bk.alloc ?_ _)
  have bB : Bk W (w.heap.size + 1) #[.int .i64 b1, .int .i64 b2, .int .i64 b3, .int .i64 b4] 44 := by rw [← hW]; repeat (first | (refine Bk.new' ?_; (simp; done)) | refine Bk.alloc ?_ _)
  have HB : Hid (Below w.heap.size w W) := Lib.hid (by rw [← hW]; exact (by repeat (first | exact Below.refl _ _ | (refine Below.alloc ?_ (by simp <;> omega) _) | (refine Below.setCell ?_ (by simp <;> omega) _) | (refine Below.drew ?_) | (refine bel_drewN ?_ _))))
  clear hW
  refine (KA.out _).mono ?_
  rintro e w1 ⟨rfl, hb⟩
  replace bA := bA.on hb
  replace bB := bB.on hb
  replace HB := Lib.hid (bel_end HB.out hb)
  clear hb
  cases hP : P
  case false =>
    subst hP
    have bA_0 := bA.cell 0 rfl
    have bA_1 := bA.cell 1 rfl
    have bA_2 := bA.cell 2 rfl
    have bA_3 := bA.cell 3 rfl
    have bA_l := bA.lt
    have bB_0 := bB.cell 0 rfl
    have bB_1 := bB.cell 1 rfl
    have bB_2 := bB.cell 2 rfl
    have bB_3 := bB.cell 3 rfl
    have bB_l := bB.lt
    go_wp2
    go_ret2
    exact ⟨retbe HT.out.1 HT.out.2, HB.out⟩
  case true =>
    subst hP
    obtain rfl : R = false := HO.out
    have bA_0 := bA.cell 0 rfl
    have bA_1 := bA.cell 1 rfl
    have bA_2 := bA.cell 2 rfl
    have bA_3 := bA.cell 3 rfl
    have bA_l := bA.lt
    have bB_0 := bB.cell 0 rfl
    have bB_1 := bB.cell 1 rfl
    have bB_2 := bB.cell 2 rfl
    have bB_3 := bB.cell 3 rfl
    have bB_l := bB.lt
    go_wp2_with fail
    refine (KB.out _).mono ?_
    rintro e w2 ⟨rfl, hb⟩
    replace bA := bA.on hb
    replace bB := bB.on hb
    replace HB := Lib.hid (bel_end HB.out hb)
    clear hb
    clear bA_0 bA_1 bA_2 bA_3 bA_l bB_0 bB_1 bB_2 bB_3 bB_l
    have bA_0 := bA.cell 0 rfl
    have bA_1 := bA.cell 1 rfl
    have bA_2 := bA.cell 2 rfl
    have bA_3 := bA.cell 3 rfl
    have bA_l := bA.lt
    have bB_0 := bB.cell 0 rfl
    have bB_1 := bB.cell 1 rfl
    have bB_2 := bB.cell 2 rfl
    have bB_3 := bB.cell 3 rfl
    have bB_l := bB.lt
    go_wp2
    go_ret2
    exact ⟨retbe HT.out.1 HT.out.2, HB.out⟩

set_option maxRecDepth 100000 in
set_option maxHeartbeats 8000000 in
theorem sdm_ok (w : World) (a1 a2 a3 a4 b1 b2 b3 b4 : Int) (hok : okT a1 a2 a3 a4 b1 b2 b3 b4 = true) :
    Calls Try.prog 36 #[.agg #[.int .i64 a1, .int .i64 a2, .int .i64 a3, .int .i64 a4], .agg #[.int .i64 b1, .int .i64 b2, .int .i64 b3, .int .i64 b4]] w fun e w' => e = .returned (.tuple #[.bool (dmB a1 a2 a3 a4 b1 b2 b3 b4), .int .i64 (dmC a1 a2 a3 a4 b1 b2 b3 b4)]) ∧ Below w.heap.size w w' := by
  obtain ⟨ha, hb, hs⟩ := okT_t hok
  have ba := tkB_t ha
  have bb := tkB_t hb
  have KA : Hid (∀ W : World, Calls Try.prog 62 #[.agg #[.int .i64 a1, .int .i64 a2, .int .i64 a3, .int .i64 a4]] W fun e w' => e = .returned (.bool true) ∧ Below W.heap.size W w') := Lib.hid (fun W => by have := ltk_any W a1 a2 a3 a4; rwa [ha] at this)
  have KB : Hid (∀ W : World, Calls Try.prog 62 #[.agg #[.int .i64 b1, .int .i64 b2, .int .i64 b3, .int .i64 b4]] W fun e w' => e = .returned (.bool true) ∧ Below W.heap.size W w') := Lib.hid (fun W => by have := ltk_any W b1 b2 b3 b4; rwa [hb] at this)
  have KL1 : Hid (∀ W : World, Calls Try.prog 51 #[.agg #[.int .i64 b1, .int .i64 b2], .agg #[.int .i64 a1, .int .i64 a2]] W fun e w' => e = .returned (.agg #[.int .i64 (b1 - a1), .int .i64 (b2 - a2)]) ∧ Below W.heap.size W w') := Lib.hid (fun W => lle_any W b1 b2 a1 a2 (by omega) (by omega) (by omega) (by omega) (by omega) (by omega) (by omega) (by omega))
  have KL2 : Hid (∀ W : World, Calls Try.prog 51 #[.agg #[.int .i64 b3, .int .i64 b4], .agg #[.int .i64 a3, .int .i64 a4]] W fun e w' => e = .returned (.agg #[.int .i64 (b3 - a3), .int .i64 (b4 - a4)]) ∧ Below W.heap.size W w') := Lib.hid (fun W => lle_any W b3 b4 a3 a4 (by omega) (by omega) (by omega) (by omega) (by omega) (by omega) (by omega) (by omega))
  have HT0 : dmB a1 a2 a3 a4 b1 b2 b3 b4 = (lsN (b1 - a1) (b2 - a2) (b3 - a3) (b4 - a4) == 0) := by unfold dmB; rw [hok]; rfl
  have HC : Hid (dmC a1 a2 a3 a4 b1 b2 b3 b4 = 0) := Lib.hid (by unfold dmC; rw [hok]; rfl)
  obtain ⟨X, hX⟩ : ∃ u, b1 - a1 = u := ⟨_, rfl⟩
  obtain ⟨Y, hY⟩ : ∃ u, b2 - a2 = u := ⟨_, rfl⟩
  obtain ⟨M, hM⟩ : ∃ u, b3 - a3 = u := ⟨_, rfl⟩
  obtain ⟨N, hN⟩ : ∃ u, b4 - a4 = u := ⟨_, rfl⟩
  rw [hX, hY] at KL1
  rw [hM, hN] at KL2
  rw [hX, hY, hM, hN] at hs
  rw [hX, hY, hM, hN, meet_eq] at HT0
  clear hX hY hM hN hok ha hb ba bb
  have p := hs.pr
  have K1 : Hid (∀ W : World, Calls Try.prog 67 #[.agg #[.int .i64 X, .int .i64 Y], .agg #[.int .i64 M, .int .i64 N]] W fun e w' => e = .returned (.int .i64 (dt2 X Y M N)) ∧ Below W.heap.size W w') := Lib.hid (fun W => ldt_any W X Y M N (by omega) (by omega) (by omega) (by omega))
  have K4 : Hid (∀ W : World, Calls Try.prog 50 #[.agg #[.int .i64 X, .int .i64 Y], .agg #[.int .i64 M, .int .i64 N]] W fun e w' => e = .returned (.int .i64 (crs X Y M N)) ∧ Below W.heap.size W w') := Lib.hid (fun W => lcr_any W X Y M N (by omega) (by omega) (by omega) (by omega))
  obtain ⟨D, hD⟩ : ∃ u, dt2 X Y M N = u := ⟨_, rfl⟩
  obtain ⟨C, hC⟩ : ∃ u, crs X Y M N = u := ⟨_, rfl⟩
  rw [hD] at K1 HT0
  rw [hC] at K4 HT0
  replace HT0 := Lib.hid HT0
  clear hD hC p hs
  go_enter Try.func36, Try.ntmps36
  go_wp2_with fail
  generalize hW : World.alloc _ _ = W
  have bA : Bk W (w.heap.size) #[.int .i64 a1, .int .i64 a2, .int .i64 a3, .int .i64 a4] 44 := by rw [← hW]; repeat (first | (refine Bk.new' ?_; (simp; done)) | refine Bk.alloc ?_ _)
  have bB : Bk W (w.heap.size + 1) #[.int .i64 b1, .int .i64 b2, .int .i64 b3, .int .i64 b4] 44 := by rw [← hW]; repeat (first | (refine Bk.new' ?_; (simp; done)) | refine Bk.alloc ?_ _)
  have HB : Hid (Below w.heap.size w W) := Lib.hid (by rw [← hW]; exact (by repeat (first | exact Below.refl _ _ | (refine Below.alloc ?_ (by simp <;> omega) _) | (refine Below.setCell ?_ (by simp <;> omega) _) | (refine Below.drew ?_) | (refine bel_drewN ?_ _))))
  clear hW
  refine (KA.out _).mono ?_
  rintro e w1 ⟨rfl, hb⟩
  replace bA := bA.on hb
  replace bB := bB.on hb
  replace HB := Lib.hid (bel_end HB.out hb)
  clear hb
  have bA_0 := bA.cell 0 rfl
  have bA_1 := bA.cell 1 rfl
  have bA_2 := bA.cell 2 rfl
  have bA_3 := bA.cell 3 rfl
  have bA_l := bA.lt
  have bB_0 := bB.cell 0 rfl
  have bB_1 := bB.cell 1 rfl
  have bB_2 := bB.cell 2 rfl
  have bB_3 := bB.cell 3 rfl
  have bB_l := bB.lt
  go_wp2_with fail
  refine (KB.out _).mono ?_
  rintro e w2 ⟨rfl, hb⟩
  replace bA := bA.on hb
  replace bB := bB.on hb
  replace HB := Lib.hid (bel_end HB.out hb)
  clear hb
  clear bA_0 bA_1 bA_2 bA_3 bA_l bB_0 bB_1 bB_2 bB_3 bB_l
  have bA_0 := bA.cell 0 rfl
  have bA_1 := bA.cell 1 rfl
  have bA_2 := bA.cell 2 rfl
  have bA_3 := bA.cell 3 rfl
  have bA_l := bA.lt
  have bB_0 := bB.cell 0 rfl
  have bB_1 := bB.cell 1 rfl
  have bB_2 := bB.cell 2 rfl
  have bB_3 := bB.cell 3 rfl
  have bB_l := bB.lt
  go_upto_region 3 with fail
  clear bA_0 bA_1 bA_2 bA_3 bA_l bB_0 bB_1 bB_2 bB_3 bB_l
  go_cut [6, 7] (fun s6 s7 wx => TwoP wx s6 s7 X Y M N w2.heap.size ∧ Below w2.heap.size w2 wx)
  case first =>
    have HW : Hid (Below w2.heap.size w2 w2) := Lib.hid (Below.refl _ _)
    obtain ⟨S, hSd⟩ : ∃ S : World → Prop, ∀ w', S w' ↔ (w'.cell? ⟨w.heap.size, 0, none⟩ = some (.int .i64 a1) ∧ w'.cell? ⟨w.heap.size, 1, none⟩ = some (.int .i64 a2) ∧ w'.cell? ⟨w.heap.size, 2, none⟩ = some (.int .i64 a3) ∧ w'.cell? ⟨w.heap.size, 3, none⟩ = some (.int .i64 a4) ∧ w'.cell? ⟨w.heap.size + 1, 0, none⟩ = some (.int .i64 b1) ∧ w'.cell? ⟨w.heap.size + 1, 1, none⟩ = some (.int .i64 b2) ∧ w'.cell? ⟨w.heap.size + 1, 2, none⟩ = some (.int .i64 b3) ∧ w'.cell? ⟨w.heap.size + 1, 3, none⟩ = some (.int .i64 b4)) := ⟨_, fun _ => Iff.rfl⟩
    have HSp : Hid (∀ w' : World, Bk w' (w.heap.size) #[.int .i64 a1, .int .i64 a2, .int .i64 a3, .int .i64 a4] 44 → Bk w' (w.heap.size + 1) #[.int .i64 b1, .int .i64 b2, .int .i64 b3, .int .i64 b4] 44 → S w') := Lib.hid (fun w' bA bB => (hSd w').2 ⟨bA.cell 0 rfl, bA.cell 1 rfl, bA.cell 2 rfl, bA.cell 3 rfl, bB.cell 0 rfl, bB.cell 1 rfl, bB.cell 2 rfl, bB.cell 3 rfl⟩)
    have HSd := Lib.hid hSd
    clear hSd
    refine wp_region_held_drew (S := S) (by kernel_rfl) ?_ (fun hH => ?_)
    · exact (HSp.out _ bA bB : S (World.drew w2))
    clear hH
    generalize hX : World.drew w2 = V0
    replace bA : Bk V0 (w.heap.size) #[.int .i64 a1, .int .i64 a2, .int .i64 a3, .int .i64 a4] 44 := by rw [← hX]; exact bA
    replace bB : Bk V0 (w.heap.size + 1) #[.int .i64 b1, .int .i64 b2, .int .i64 b3, .int .i64 b4] 44 := by rw [← hX]; exact bB
    have hb : Below w2.heap.size w2 V0 := by rw [← hX]; exact (Below.refl _ _).drew
    clear hX
    replace HW := Lib.hid (bel_end HW.out hb)
    clear hb
    have hS := HSp.out _ bA bB
    refine wpAnyH_take (i := 0) (oi := { dst := some 16, op := Go.Op.fieldAddr 44 (Go.Operand.tmp 3) 0, type := 0, pos := "l12_bearings.go:144", after := #[], guard := none }) (v := ?_) rfl (by kernel_rfl) (by kernel_rfl) (by kernel_rfl) (fun _ _ _ h => h) (Or.inl ⟨by rfl, ?_⟩) hS ?_
    rotate_left
    · (intro w hSw; have hSw := (HSd.out w).1 hSw; go_split_ands; go_simp) <;> with_reducible rfl
    clear hS
    try simp only [Act.put, List.setIfInBounds_toArray, List.set_cons_zero, List.set_cons_succ]
    have hS := HSp.out _ bA bB
    refine wpAnyH_take (i := 1) (oi := { dst := some 17, op := Go.Op.load 25 (Go.Operand.tmp 16), type := 25, pos := "l12_bearings.go:144", after := #[{ on := 0, ground := Go.Ground.data }], guard := none }) (v := ?_) rfl (by kernel_rfl) (by kernel_rfl) (by kernel_rfl) (fun _ _ _ h => h) (Or.inl ⟨by rfl, ?_⟩) hS ?_
    rotate_left
    · (intro w hSw; have hSw := (HSd.out w).1 hSw; go_split_ands; go_simp) <;> with_reducible rfl
    clear hS
    try simp only [Act.put, List.setIfInBounds_toArray, List.set_cons_zero, List.set_cons_succ]
    have hS := HSp.out _ bA bB
    refine wpAnyH_take (i := 2) (oi := { dst := some 18, op := Go.Op.fieldAddr 44 (Go.Operand.tmp 2) 0, type := 0, pos := "l12_bearings.go:144", after := #[], guard := none }) (v := ?_) rfl (by kernel_rfl) (by kernel_rfl) (by kernel_rfl) (fun _ _ _ h => h) (Or.inl ⟨by rfl, ?_⟩) hS ?_
    rotate_left
    · (intro w hSw; have hSw := (HSd.out w).1 hSw; go_split_ands; go_simp) <;> with_reducible rfl
    clear hS
    try simp only [Act.put, List.setIfInBounds_toArray, List.set_cons_zero, List.set_cons_succ]
    have hS := HSp.out _ bA bB
    refine wpAnyH_take (i := 3) (oi := { dst := some 19, op := Go.Op.load 25 (Go.Operand.tmp 18), type := 25, pos := "l12_bearings.go:144", after := #[{ on := 2, ground := Go.Ground.data }], guard := none }) (v := ?_) rfl (by kernel_rfl) (by kernel_rfl) (by kernel_rfl) (fun _ _ _ h => h) (Or.inl ⟨by rfl, ?_⟩) hS ?_
    rotate_left
    · (intro w hSw; have hSw := (HSd.out w).1 hSw; go_split_ands; go_simp) <;> with_reducible rfl
    clear hS
    try simp only [Act.put, List.setIfInBounds_toArray, List.set_cons_zero, List.set_cons_succ]
    have hS := HSp.out _ bA bB
    refine wpAnyH_take (i := 5) (oi := { dst := some 21, op := Go.Op.fieldAddr 44 (Go.Operand.tmp 3) 1, type := 0, pos := "l12_bearings.go:144", after := #[], guard := none }) (v := ?_) rfl (by kernel_rfl) (by kernel_rfl) (by kernel_rfl) (fun _ _ _ h => h) (Or.inl ⟨by rfl, ?_⟩) hS ?_
    rotate_left
    · (intro w hSw; have hSw := (HSd.out w).1 hSw; go_split_ands; go_simp) <;> with_reducible rfl
    clear hS
    try simp only [Act.put, List.setIfInBounds_toArray, List.set_cons_zero, List.set_cons_succ]
    have hS := HSp.out _ bA bB
    refine wpAnyH_take (i := 6) (oi := { dst := some 22, op := Go.Op.load 25 (Go.Operand.tmp 21), type := 25, pos := "l12_bearings.go:144", after := #[{ on := 5, ground := Go.Ground.data }], guard := none }) (v := ?_) rfl (by kernel_rfl) (by kernel_rfl) (by kernel_rfl) (fun _ _ _ h => h) (Or.inl ⟨by rfl, ?_⟩) hS ?_
    rotate_left
    · (intro w hSw; have hSw := (HSd.out w).1 hSw; go_split_ands; go_simp) <;> with_reducible rfl
    clear hS
    try simp only [Act.put, List.setIfInBounds_toArray, List.set_cons_zero, List.set_cons_succ]
    have hS := HSp.out _ bA bB
    refine wpAnyH_take (i := 7) (oi := { dst := some 23, op := Go.Op.fieldAddr 44 (Go.Operand.tmp 2) 1, type := 0, pos := "l12_bearings.go:144", after := #[], guard := none }) (v := ?_) rfl (by kernel_rfl) (by kernel_rfl) (by kernel_rfl) (fun _ _ _ h => h) (Or.inl ⟨by rfl, ?_⟩) hS ?_
    rotate_left
    · (intro w hSw; have hSw := (HSd.out w).1 hSw; go_split_ands; go_simp) <;> with_reducible rfl
    clear hS
    try simp only [Act.put, List.setIfInBounds_toArray, List.set_cons_zero, List.set_cons_succ]
    have hS := HSp.out _ bA bB
    refine wpAnyH_take (i := 8) (oi := { dst := some 24, op := Go.Op.load 25 (Go.Operand.tmp 23), type := 25, pos := "l12_bearings.go:144", after := #[{ on := 7, ground := Go.Ground.data }], guard := none }) (v := ?_) rfl (by kernel_rfl) (by kernel_rfl) (by kernel_rfl) (fun _ _ _ h => h) (Or.inl ⟨by rfl, ?_⟩) hS ?_
    rotate_left
    · (intro w hSw; have hSw := (HSd.out w).1 hSw; go_split_ands; go_simp) <;> with_reducible rfl
    clear hS
    try simp only [Act.put, List.setIfInBounds_toArray, List.set_cons_zero, List.set_cons_succ]
    refine wpAnyH_ready (rs := [4, 10, 11]) (by decide +kernel) (by simp) ?_
    refine AllReadyH.cons (o := { dst := some 20, op := Go.Op.call { callee := Go.Callee.value (Go.Operand.func 51), args := #[Go.Operand.tmp 17, Go.Operand.tmp 19], argTypes := #[25, 25] }, type := 25, pos := "l12_bearings.go:144", after := #[{ on := 1, ground := Go.Ground.data }, { on := 3, ground := Go.Ground.data }], guard := none }) rfl (fun Kn hK => ?_) ?_
    first | go_at_call 51 | (go_simp; go_at_call 51)
    (with_reducible refine Calls.mono (KL1.out  _) ?_)
    rintro e V1 ⟨rfl, hb⟩
    try dsimp only
    try simp only [Act.put, List.setIfInBounds_toArray, List.set_cons_zero, List.set_cons_succ]
    replace bA := bA.on hb
    replace bB := bB.on hb
    replace HW := Lib.hid (bel_end HW.out hb)
    clear hb
    refine hK.out _ _ (HSp.out _ bA bB) (fun _ => ?_)
    clear hK Kn
    rotate_left
    refine AllReadyH.cons (o := { dst := some 6, op := Go.Op.alloc 25, type := 0, pos := "l12_bearings.go:144", after := #[], guard := none }) rfl (fun Kn hK => ?_) ?_
    go_simp
    generalize hX : World.alloc V0 _ = V1
    obtain ⟨g10, hg⟩ : ∃ g, g = V0.heap.size := ⟨_, rfl⟩
    have bn10 : Bk V1 g10 #[.int .i64 0, .int .i64 0] 25 := by rw [← hX]; exact Bk.new' hg
    have le10 : w2.heap.size ≤ g10 := by rw [hg]; exact HW.out.size
    have nebA_10 : w.heap.size ≠ g10 := by have := bA.lt; omega
    have nebB_10 : w.heap.size + 1 ≠ g10 := by have := bB.lt; omega
    try rw [← hg]
    have hb : Below V0.heap.size V0 V1 := by rw [← hX]; exact (Below.refl _ _).alloc (Nat.le_refl _) _
    clear hX hg
    replace bA := bA.on hb
    replace bB := bB.on hb
    replace HW := Lib.hid (bel_end HW.out hb)
    clear hb
    refine hK.out _ _ (HSp.out _ bA bB) (fun _ => ?_)
    clear hK Kn
    rotate_left
    refine AllReadyH.cons (o := { dst := some 7, op := Go.Op.alloc 25, type := 0, pos := "l12_bearings.go:144", after := #[], guard := none }) rfl (fun Kn hK => ?_) AllReadyH.nil
    go_simp
    generalize hX : World.alloc V0 _ = V1
    obtain ⟨g11, hg⟩ : ∃ g, g = V0.heap.size := ⟨_, rfl⟩
    have bn11 : Bk V1 g11 #[.int .i64 0, .int .i64 0] 25 := by rw [← hX]; exact Bk.new' hg
    have le11 : w2.heap.size ≤ g11 := by rw [hg]; exact HW.out.size
    have nebA_11 : w.heap.size ≠ g11 := by have := bA.lt; omega
    have nebB_11 : w.heap.size + 1 ≠ g11 := by have := bB.lt; omega
    try rw [← hg]
    have hb : Below V0.heap.size V0 V1 := by rw [← hX]; exact (Below.refl _ _).alloc (Nat.le_refl _) _
    clear hX hg
    replace bA := bA.on hb
    replace bB := bB.on hb
    replace HW := Lib.hid (bel_end HW.out hb)
    clear hb
    refine hK.out _ _ (HSp.out _ bA bB) (fun _ => ?_)
    clear hK Kn
    all_goals
      first
      | (refine wpAnyH_ready (rs := [9, 10, 11]) (by decide +kernel) (by simp) ?_
         refine AllReadyH.cons (o := { dst := some 25, op := Go.Op.call { callee := Go.Callee.value (Go.Operand.func 51), args := #[Go.Operand.tmp 22, Go.Operand.tmp 24], argTypes := #[25, 25] }, type := 25, pos := "l12_bearings.go:144", after := #[{ on := 6, ground := Go.Ground.data }, { on := 8, ground := Go.Ground.data }, { on := 4, ground := Go.Ground.chain }], guard := none }) rfl (fun Kn hK => ?_) ?_
         first | go_at_call 51 | (go_simp; go_at_call 51)
         (with_reducible refine Calls.mono (KL2.out  _) ?_)
         rintro e V2 ⟨rfl, hb⟩
         try dsimp only
         try simp only [Act.put, List.setIfInBounds_toArray, List.set_cons_zero, List.set_cons_succ]
         replace bA := bA.on hb
         replace bB := bB.on hb
         replace HW := Lib.hid (bel_end HW.out hb)
         clear hb
         refine hK.out _ _ (HSp.out _ bA bB) (fun _ => ?_)
         clear hK Kn
         rotate_left
         refine AllReadyH.cons (o := { dst := some 6, op := Go.Op.alloc 25, type := 0, pos := "l12_bearings.go:144", after := #[], guard := none }) rfl (fun Kn hK => ?_) ?_
         go_simp
         generalize hX : World.alloc V1 _ = V2
         obtain ⟨g10, hg⟩ : ∃ g, g = V1.heap.size := ⟨_, rfl⟩
         have bn10 : Bk V2 g10 #[.int .i64 0, .int .i64 0] 25 := by rw [← hX]; exact Bk.new' hg
         have le10 : w2.heap.size ≤ g10 := by rw [hg]; exact HW.out.size
         have nebA_10 : w.heap.size ≠ g10 := by have := bA.lt; omega
         have nebB_10 : w.heap.size + 1 ≠ g10 := by have := bB.lt; omega
         try rw [← hg]
         have hb : Below V1.heap.size V1 V2 := by rw [← hX]; exact (Below.refl _ _).alloc (Nat.le_refl _) _
         clear hX hg
         replace bA := bA.on hb
         replace bB := bB.on hb
         replace HW := Lib.hid (bel_end HW.out hb)
         clear hb
         refine hK.out _ _ (HSp.out _ bA bB) (fun _ => ?_)
         clear hK Kn
         rotate_left
         refine AllReadyH.cons (o := { dst := some 7, op := Go.Op.alloc 25, type := 0, pos := "l12_bearings.go:144", after := #[], guard := none }) rfl (fun Kn hK => ?_) AllReadyH.nil
         go_simp
         generalize hX : World.alloc V1 _ = V2
         obtain ⟨g11, hg⟩ : ∃ g, g = V1.heap.size := ⟨_, rfl⟩
         have bn11 : Bk V2 g11 #[.int .i64 0, .int .i64 0] 25 := by rw [← hX]; exact Bk.new' hg
         have le11 : w2.heap.size ≤ g11 := by rw [hg]; exact HW.out.size
         have nebA_11 : w.heap.size ≠ g11 := by have := bA.lt; omega
         have nebB_11 : w.heap.size + 1 ≠ g11 := by have := bB.lt; omega
         try rw [← hg]
         have hb : Below V1.heap.size V1 V2 := by rw [← hX]; exact (Below.refl _ _).alloc (Nat.le_refl _) _
         clear hX hg
         replace bA := bA.on hb
         replace bB := bB.on hb
         replace HW := Lib.hid (bel_end HW.out hb)
         clear hb
         refine hK.out _ _ (HSp.out _ bA bB) (fun _ => ?_)
         clear hK Kn)
      | (refine wpAnyH_ready (rs := [4, 11]) (by decide +kernel) (by simp) ?_
         refine AllReadyH.cons (o := { dst := some 20, op := Go.Op.call { callee := Go.Callee.value (Go.Operand.func 51), args := #[Go.Operand.tmp 17, Go.Operand.tmp 19], argTypes := #[25, 25] }, type := 25, pos := "l12_bearings.go:144", after := #[{ on := 1, ground := Go.Ground.data }, { on := 3, ground := Go.Ground.data }], guard := none }) rfl (fun Kn hK => ?_) ?_
         first | go_at_call 51 | (go_simp; go_at_call 51)
         (with_reducible refine Calls.mono (KL1.out  _) ?_)
         rintro e V2 ⟨rfl, hb⟩
         try dsimp only
         try simp only [Act.put, List.setIfInBounds_toArray, List.set_cons_zero, List.set_cons_succ]
         replace bA := bA.on hb
         replace bB := bB.on hb
         replace bn10 := bn10.on hb
         replace HW := Lib.hid (bel_end HW.out hb)
         clear hb
         refine hK.out _ _ (HSp.out _ bA bB) (fun _ => ?_)
         clear hK Kn
         rotate_left
         refine AllReadyH.cons (o := { dst := some 7, op := Go.Op.alloc 25, type := 0, pos := "l12_bearings.go:144", after := #[], guard := none }) rfl (fun Kn hK => ?_) AllReadyH.nil
         go_simp
         generalize hX : World.alloc V1 _ = V2
         obtain ⟨g11, hg⟩ : ∃ g, g = V1.heap.size := ⟨_, rfl⟩
         have bn11 : Bk V2 g11 #[.int .i64 0, .int .i64 0] 25 := by rw [← hX]; exact Bk.new' hg
         have le11 : w2.heap.size ≤ g11 := by rw [hg]; exact HW.out.size
         have nebA_11 : w.heap.size ≠ g11 := by have := bA.lt; omega
         have nebB_11 : w.heap.size + 1 ≠ g11 := by have := bB.lt; omega
         have ne10_11 : g10 ≠ g11 := by have := bn10.lt; omega
         try rw [← hg]
         have hb : Below V1.heap.size V1 V2 := by rw [← hX]; exact (Below.refl _ _).alloc (Nat.le_refl _) _
         clear hX hg
         replace bA := bA.on hb
         replace bB := bB.on hb
         replace bn10 := bn10.on hb
         replace HW := Lib.hid (bel_end HW.out hb)
         clear hb
         refine hK.out _ _ (HSp.out _ bA bB) (fun _ => ?_)
         clear hK Kn)
      | (refine wpAnyH_ready (rs := [4, 10]) (by decide +kernel) (by simp) ?_
         refine AllReadyH.cons (o := { dst := some 20, op := Go.Op.call { callee := Go.Callee.value (Go.Operand.func 51), args := #[Go.Operand.tmp 17, Go.Operand.tmp 19], argTypes := #[25, 25] }, type := 25, pos := "l12_bearings.go:144", after := #[{ on := 1, ground := Go.Ground.data }, { on := 3, ground := Go.Ground.data }], guard := none }) rfl (fun Kn hK => ?_) ?_
         first | go_at_call 51 | (go_simp; go_at_call 51)
         (with_reducible refine Calls.mono (KL1.out  _) ?_)
         rintro e V2 ⟨rfl, hb⟩
         try dsimp only
         try simp only [Act.put, List.setIfInBounds_toArray, List.set_cons_zero, List.set_cons_succ]
         replace bA := bA.on hb
         replace bB := bB.on hb
         replace bn11 := bn11.on hb
         replace HW := Lib.hid (bel_end HW.out hb)
         clear hb
         refine hK.out _ _ (HSp.out _ bA bB) (fun _ => ?_)
         clear hK Kn
         rotate_left
         refine AllReadyH.cons (o := { dst := some 6, op := Go.Op.alloc 25, type := 0, pos := "l12_bearings.go:144", after := #[], guard := none }) rfl (fun Kn hK => ?_) AllReadyH.nil
         go_simp
         generalize hX : World.alloc V1 _ = V2
         obtain ⟨g10, hg⟩ : ∃ g, g = V1.heap.size := ⟨_, rfl⟩
         have bn10 : Bk V2 g10 #[.int .i64 0, .int .i64 0] 25 := by rw [← hX]; exact Bk.new' hg
         have le10 : w2.heap.size ≤ g10 := by rw [hg]; exact HW.out.size
         have nebA_10 : w.heap.size ≠ g10 := by have := bA.lt; omega
         have nebB_10 : w.heap.size + 1 ≠ g10 := by have := bB.lt; omega
         have ne10_11 : g10 ≠ g11 := by have := bn11.lt; omega
         try rw [← hg]
         have hb : Below V1.heap.size V1 V2 := by rw [← hX]; exact (Below.refl _ _).alloc (Nat.le_refl _) _
         clear hX hg
         replace bA := bA.on hb
         replace bB := bB.on hb
         replace bn11 := bn11.on hb
         replace HW := Lib.hid (bel_end HW.out hb)
         clear hb
         refine hK.out _ _ (HSp.out _ bA bB) (fun _ => ?_)
         clear hK Kn)
    all_goals
      first
      | (refine wpAnyH_ready (rs := [10, 11]) (by decide +kernel) (by simp) ?_
         refine AllReadyH.cons (o := { dst := some 6, op := Go.Op.alloc 25, type := 0, pos := "l12_bearings.go:144", after := #[], guard := none }) rfl (fun Kn hK => ?_) ?_
         go_simp
         generalize hX : World.alloc V2 _ = V3
         obtain ⟨g10, hg⟩ : ∃ g, g = V2.heap.size := ⟨_, rfl⟩
         have bn10 : Bk V3 g10 #[.int .i64 0, .int .i64 0] 25 := by rw [← hX]; exact Bk.new' hg
         have le10 : w2.heap.size ≤ g10 := by rw [hg]; exact HW.out.size
         have nebA_10 : w.heap.size ≠ g10 := by have := bA.lt; omega
         have nebB_10 : w.heap.size + 1 ≠ g10 := by have := bB.lt; omega
         try rw [← hg]
         have hb : Below V2.heap.size V2 V3 := by rw [← hX]; exact (Below.refl _ _).alloc (Nat.le_refl _) _
         clear hX hg
         replace bA := bA.on hb
         replace bB := bB.on hb
         replace HW := Lib.hid (bel_end HW.out hb)
         clear hb
         refine hK.out _ _ (HSp.out _ bA bB) (fun _ => ?_)
         clear hK Kn
         rotate_left
         refine AllReadyH.cons (o := { dst := some 7, op := Go.Op.alloc 25, type := 0, pos := "l12_bearings.go:144", after := #[], guard := none }) rfl (fun Kn hK => ?_) AllReadyH.nil
         go_simp
         generalize hX : World.alloc V2 _ = V3
         obtain ⟨g11, hg⟩ : ∃ g, g = V2.heap.size := ⟨_, rfl⟩
         have bn11 : Bk V3 g11 #[.int .i64 0, .int .i64 0] 25 := by rw [← hX]; exact Bk.new' hg
         have le11 : w2.heap.size ≤ g11 := by rw [hg]; exact HW.out.size
         have nebA_11 : w.heap.size ≠ g11 := by have := bA.lt; omega
         have nebB_11 : w.heap.size + 1 ≠ g11 := by have := bB.lt; omega
         try rw [← hg]
         have hb : Below V2.heap.size V2 V3 := by rw [← hX]; exact (Below.refl _ _).alloc (Nat.le_refl _) _
         clear hX hg
         replace bA := bA.on hb
         replace bB := bB.on hb
         replace HW := Lib.hid (bel_end HW.out hb)
         clear hb
         refine hK.out _ _ (HSp.out _ bA bB) (fun _ => ?_)
         clear hK Kn)
      | (refine wpAnyH_ready (rs := [9, 11]) (by decide +kernel) (by simp) ?_
         refine AllReadyH.cons (o := { dst := some 25, op := Go.Op.call { callee := Go.Callee.value (Go.Operand.func 51), args := #[Go.Operand.tmp 22, Go.Operand.tmp 24], argTypes := #[25, 25] }, type := 25, pos := "l12_bearings.go:144", after := #[{ on := 6, ground := Go.Ground.data }, { on := 8, ground := Go.Ground.data }, { on := 4, ground := Go.Ground.chain }], guard := none }) rfl (fun Kn hK => ?_) ?_
         first | go_at_call 51 | (go_simp; go_at_call 51)
         (with_reducible refine Calls.mono (KL2.out  _) ?_)
         rintro e V3 ⟨rfl, hb⟩
         try dsimp only
         try simp only [Act.put, List.setIfInBounds_toArray, List.set_cons_zero, List.set_cons_succ]
         replace bA := bA.on hb
         replace bB := bB.on hb
         replace bn10 := bn10.on hb
         replace HW := Lib.hid (bel_end HW.out hb)
         clear hb
         refine hK.out _ _ (HSp.out _ bA bB) (fun _ => ?_)
         clear hK Kn
         rotate_left
         refine AllReadyH.cons (o := { dst := some 7, op := Go.Op.alloc 25, type := 0, pos := "l12_bearings.go:144", after := #[], guard := none }) rfl (fun Kn hK => ?_) AllReadyH.nil
         go_simp
         generalize hX : World.alloc V2 _ = V3
         obtain ⟨g11, hg⟩ : ∃ g, g = V2.heap.size := ⟨_, rfl⟩
         have bn11 : Bk V3 g11 #[.int .i64 0, .int .i64 0] 25 := by rw [← hX]; exact Bk.new' hg
         have le11 : w2.heap.size ≤ g11 := by rw [hg]; exact HW.out.size
         have nebA_11 : w.heap.size ≠ g11 := by have := bA.lt; omega
         have nebB_11 : w.heap.size + 1 ≠ g11 := by have := bB.lt; omega
         have ne10_11 : g10 ≠ g11 := by have := bn10.lt; omega
         try rw [← hg]
         have hb : Below V2.heap.size V2 V3 := by rw [← hX]; exact (Below.refl _ _).alloc (Nat.le_refl _) _
         clear hX hg
         replace bA := bA.on hb
         replace bB := bB.on hb
         replace bn10 := bn10.on hb
         replace HW := Lib.hid (bel_end HW.out hb)
         clear hb
         refine hK.out _ _ (HSp.out _ bA bB) (fun _ => ?_)
         clear hK Kn)
      | (refine wpAnyH_ready (rs := [9, 10]) (by decide +kernel) (by simp) ?_
         refine AllReadyH.cons (o := { dst := some 25, op := Go.Op.call { callee := Go.Callee.value (Go.Operand.func 51), args := #[Go.Operand.tmp 22, Go.Operand.tmp 24], argTypes := #[25, 25] }, type := 25, pos := "l12_bearings.go:144", after := #[{ on := 6, ground := Go.Ground.data }, { on := 8, ground := Go.Ground.data }, { on := 4, ground := Go.Ground.chain }], guard := none }) rfl (fun Kn hK => ?_) ?_
         first | go_at_call 51 | (go_simp; go_at_call 51)
         (with_reducible refine Calls.mono (KL2.out  _) ?_)
         rintro e V3 ⟨rfl, hb⟩
         try dsimp only
         try simp only [Act.put, List.setIfInBounds_toArray, List.set_cons_zero, List.set_cons_succ]
         replace bA := bA.on hb
         replace bB := bB.on hb
         replace bn11 := bn11.on hb
         replace HW := Lib.hid (bel_end HW.out hb)
         clear hb
         refine hK.out _ _ (HSp.out _ bA bB) (fun _ => ?_)
         clear hK Kn
         rotate_left
         refine AllReadyH.cons (o := { dst := some 6, op := Go.Op.alloc 25, type := 0, pos := "l12_bearings.go:144", after := #[], guard := none }) rfl (fun Kn hK => ?_) AllReadyH.nil
         go_simp
         generalize hX : World.alloc V2 _ = V3
         obtain ⟨g10, hg⟩ : ∃ g, g = V2.heap.size := ⟨_, rfl⟩
         have bn10 : Bk V3 g10 #[.int .i64 0, .int .i64 0] 25 := by rw [← hX]; exact Bk.new' hg
         have le10 : w2.heap.size ≤ g10 := by rw [hg]; exact HW.out.size
         have nebA_10 : w.heap.size ≠ g10 := by have := bA.lt; omega
         have nebB_10 : w.heap.size + 1 ≠ g10 := by have := bB.lt; omega
         have ne10_11 : g10 ≠ g11 := by have := bn11.lt; omega
         try rw [← hg]
         have hb : Below V2.heap.size V2 V3 := by rw [← hX]; exact (Below.refl _ _).alloc (Nat.le_refl _) _
         clear hX hg
         replace bA := bA.on hb
         replace bB := bB.on hb
         replace bn11 := bn11.on hb
         replace HW := Lib.hid (bel_end HW.out hb)
         clear hb
         refine hK.out _ _ (HSp.out _ bA bB) (fun _ => ?_)
         clear hK Kn)
      | (refine wpAnyH_ready (rs := [4]) (by decide +kernel) (by simp) ?_
         refine AllReadyH.cons (o := { dst := some 20, op := Go.Op.call { callee := Go.Callee.value (Go.Operand.func 51), args := #[Go.Operand.tmp 17, Go.Operand.tmp 19], argTypes := #[25, 25] }, type := 25, pos := "l12_bearings.go:144", after := #[{ on := 1, ground := Go.Ground.data }, { on := 3, ground := Go.Ground.data }], guard := none }) rfl (fun Kn hK => ?_) AllReadyH.nil
         first | go_at_call 51 | (go_simp; go_at_call 51)
         (with_reducible refine Calls.mono (KL1.out  _) ?_)
         rintro e V3 ⟨rfl, hb⟩
         try dsimp only
         try simp only [Act.put, List.setIfInBounds_toArray, List.set_cons_zero, List.set_cons_succ]
         replace bA := bA.on hb
         replace bB := bB.on hb
         replace bn10 := bn10.on hb
         replace bn11 := bn11.on hb
         replace HW := Lib.hid (bel_end HW.out hb)
         clear hb
         refine hK.out _ _ (HSp.out _ bA bB) (fun _ => ?_)
         clear hK Kn)
    all_goals
      first
      | (refine wpAnyH_ready (rs := [11]) (by decide +kernel) (by simp) ?_
         refine AllReadyH.cons (o := { dst := some 7, op := Go.Op.alloc 25, type := 0, pos := "l12_bearings.go:144", after := #[], guard := none }) rfl (fun Kn hK => ?_) AllReadyH.nil
         go_simp
         generalize hX : World.alloc V3 _ = V4
         obtain ⟨g11, hg⟩ : ∃ g, g = V3.heap.size := ⟨_, rfl⟩
         have bn11 : Bk V4 g11 #[.int .i64 0, .int .i64 0] 25 := by rw [← hX]; exact Bk.new' hg
         have le11 : w2.heap.size ≤ g11 := by rw [hg]; exact HW.out.size
         have nebA_11 : w.heap.size ≠ g11 := by have := bA.lt; omega
         have nebB_11 : w.heap.size + 1 ≠ g11 := by have := bB.lt; omega
         have ne10_11 : g10 ≠ g11 := by have := bn10.lt; omega
         try rw [← hg]
         have hb : Below V3.heap.size V3 V4 := by rw [← hX]; exact (Below.refl _ _).alloc (Nat.le_refl _) _
         clear hX hg
         replace bA := bA.on hb
         replace bB := bB.on hb
         replace bn10 := bn10.on hb
         replace HW := Lib.hid (bel_end HW.out hb)
         clear hb
         refine hK.out _ _ (HSp.out _ bA bB) (fun _ => ?_)
         clear hK Kn)
      | (refine wpAnyH_ready (rs := [10]) (by decide +kernel) (by simp) ?_
         refine AllReadyH.cons (o := { dst := some 6, op := Go.Op.alloc 25, type := 0, pos := "l12_bearings.go:144", after := #[], guard := none }) rfl (fun Kn hK => ?_) AllReadyH.nil
         go_simp
         generalize hX : World.alloc V3 _ = V4
         obtain ⟨g10, hg⟩ : ∃ g, g = V3.heap.size := ⟨_, rfl⟩
         have bn10 : Bk V4 g10 #[.int .i64 0, .int .i64 0] 25 := by rw [← hX]; exact Bk.new' hg
         have le10 : w2.heap.size ≤ g10 := by rw [hg]; exact HW.out.size
         have nebA_10 : w.heap.size ≠ g10 := by have := bA.lt; omega
         have nebB_10 : w.heap.size + 1 ≠ g10 := by have := bB.lt; omega
         have ne10_11 : g10 ≠ g11 := by have := bn11.lt; omega
         try rw [← hg]
         have hb : Below V3.heap.size V3 V4 := by rw [← hX]; exact (Below.refl _ _).alloc (Nat.le_refl _) _
         clear hX hg
         replace bA := bA.on hb
         replace bB := bB.on hb
         replace bn11 := bn11.on hb
         replace HW := Lib.hid (bel_end HW.out hb)
         clear hb
         refine hK.out _ _ (HSp.out _ bA bB) (fun _ => ?_)
         clear hK Kn)
      | (refine wpAnyH_ready (rs := [9]) (by decide +kernel) (by simp) ?_
         refine AllReadyH.cons (o := { dst := some 25, op := Go.Op.call { callee := Go.Callee.value (Go.Operand.func 51), args := #[Go.Operand.tmp 22, Go.Operand.tmp 24], argTypes := #[25, 25] }, type := 25, pos := "l12_bearings.go:144", after := #[{ on := 6, ground := Go.Ground.data }, { on := 8, ground := Go.Ground.data }, { on := 4, ground := Go.Ground.chain }], guard := none }) rfl (fun Kn hK => ?_) AllReadyH.nil
         first | go_at_call 51 | (go_simp; go_at_call 51)
         (with_reducible refine Calls.mono (KL2.out  _) ?_)
         rintro e V4 ⟨rfl, hb⟩
         try dsimp only
         try simp only [Act.put, List.setIfInBounds_toArray, List.set_cons_zero, List.set_cons_succ]
         replace bA := bA.on hb
         replace bB := bB.on hb
         replace bn10 := bn10.on hb
         replace bn11 := bn11.on hb
         replace HW := Lib.hid (bel_end HW.out hb)
         clear hb
         refine hK.out _ _ (HSp.out _ bA bB) (fun _ => ?_)
         clear hK Kn)
    all_goals
      refine wpAnyH_ready (rs := [12]) (by decide +kernel) (by simp) ?_
      refine AllReadyH.cons (o := { dst := none, op := Go.Op.store 25 (Go.Operand.tmp 6) (Go.Operand.tmp 20), type := 0, pos := "l12_bearings.go:144", after := #[{ on := 10, ground := Go.Ground.data }, { on := 4, ground := Go.Ground.data }, { on := 9, ground := Go.Ground.chain }, { on := 0, ground := Go.Ground.phase }, { on := 1, ground := Go.Ground.phase }, { on := 2, ground := Go.Ground.phase }, { on := 3, ground := Go.Ground.phase }, { on := 4, ground := Go.Ground.phase }, { on := 5, ground := Go.Ground.textOnly Go.Departure.lateStores }, { on := 6, ground := Go.Ground.textOnly Go.Departure.lateStores }, { on := 7, ground := Go.Ground.textOnly Go.Departure.lateStores }, { on := 8, ground := Go.Ground.textOnly Go.Departure.lateStores }, { on := 9, ground := Go.Ground.textOnly Go.Departure.lateStoresUnsure }, { on := 10, ground := Go.Ground.phase }, { on := 11, ground := Go.Ground.phase }], guard := none }) rfl (fun Kn hK => ?_) AllReadyH.nil
      have bn10_0 := bn10.cell 0 rfl
      have bn10_1 := bn10.cell 1 rfl
      have bn10_f0 := bn10.frozen 0
      have bn10_f1 := bn10.frozen 1
      have bn10_l := bn10.lt
      go_simp
      clear bn10_0 bn10_f0 bn10_1 bn10_f1 bn10_l
      generalize hX : World.setCell _ _ _ = V5
      have hb : Below w2.heap.size w2 V5 := by rw [← hX]; exact ((HW.out.setCell (p := ⟨g10, 0, none⟩) le10 _).setCell (p := ⟨g10, 1, none⟩) le10 _)
      replace bA : Bk V5 (w.heap.size) #[.int .i64 a1, .int .i64 a2, .int .i64 a3, .int .i64 a4] 44 := by rw [← hX]; exact (Bk.other (Bk.other bA nebA_10 0 _) nebA_10 1 _)
      replace bB : Bk V5 (w.heap.size + 1) #[.int .i64 b1, .int .i64 b2, .int .i64 b3, .int .i64 b4] 44 := by rw [← hX]; exact (Bk.other (Bk.other bB nebB_10 0 _) nebB_10 1 _)
      replace bn11 : Bk V5 (g11) #[.int .i64 0, .int .i64 0] 25 := by rw [← hX]; exact (Bk.other (Bk.other bn11 (Ne.symm ne10_11) 0 _) (Ne.symm ne10_11) 1 _)
      replace bn10 : Bk V5 (g10) #[.int .i64 X, .int .i64 Y] 25 := by rw [← hX]; exact (Bk.set (Bk.set bn10 0 _ rfl) 1 _ rfl)
      clear hX
      replace HW := Lib.hid hb
      clear hb
      refine hK.out _ _ (HSp.out _ bA bB) (fun _ => ?_)
      clear hK Kn
    all_goals
      refine wpAnyH_ready (rs := [13]) (by decide +kernel) (by simp) ?_
      refine AllReadyH.cons (o := { dst := none, op := Go.Op.store 25 (Go.Operand.tmp 7) (Go.Operand.tmp 25), type := 0, pos := "l12_bearings.go:144", after := #[{ on := 11, ground := Go.Ground.data }, { on := 9, ground := Go.Ground.data }, { on := 12, ground := Go.Ground.chain }, { on := 0, ground := Go.Ground.phase }, { on := 1, ground := Go.Ground.phase }, { on := 2, ground := Go.Ground.phase }, { on := 3, ground := Go.Ground.phase }, { on := 4, ground := Go.Ground.phase }, { on := 5, ground := Go.Ground.phase }, { on := 6, ground := Go.Ground.phase }, { on := 7, ground := Go.Ground.phase }, { on := 8, ground := Go.Ground.phase }, { on := 9, ground := Go.Ground.phase }, { on := 10, ground := Go.Ground.phase }, { on := 11, ground := Go.Ground.phase }, { on := 12, ground := Go.Ground.phase }], guard := none }) rfl (fun Kn hK => ?_) AllReadyH.nil
      have bn11_0 := bn11.cell 0 rfl
      have bn11_1 := bn11.cell 1 rfl
      have bn11_f0 := bn11.frozen 0
      have bn11_f1 := bn11.frozen 1
      have bn11_l := bn11.lt
      go_simp
      clear bn11_0 bn11_f0 bn11_1 bn11_f1 bn11_l
      generalize hX : World.setCell _ _ _ = V6
      have hb : Below w2.heap.size w2 V6 := by rw [← hX]; exact ((HW.out.setCell (p := ⟨g11, 0, none⟩) le11 _).setCell (p := ⟨g11, 1, none⟩) le11 _)
      replace bA : Bk V6 (w.heap.size) #[.int .i64 a1, .int .i64 a2, .int .i64 a3, .int .i64 a4] 44 := by rw [← hX]; exact (Bk.other (Bk.other bA nebA_11 0 _) nebA_11 1 _)
      replace bB : Bk V6 (w.heap.size + 1) #[.int .i64 b1, .int .i64 b2, .int .i64 b3, .int .i64 b4] 44 := by rw [← hX]; exact (Bk.other (Bk.other bB nebB_11 0 _) nebB_11 1 _)
      replace bn10 : Bk V6 (g10) #[.int .i64 X, .int .i64 Y] 25 := by rw [← hX]; exact (Bk.other (Bk.other bn10 ne10_11 0 _) ne10_11 1 _)
      replace bn11 : Bk V6 (g11) #[.int .i64 M, .int .i64 N] 25 := by rw [← hX]; exact (Bk.set (Bk.set bn11 0 _ rfl) 1 _ rfl)
      clear hX
      replace HW := Lib.hid hb
      clear hb
      refine hK.out _ _ (HSp.out _ bA bB) (fun _ => ?_)
      clear hK Kn
    all_goals
      refine wpAnyH_done (by kernel_rfl) ?_ _
      go_wp2_with fail
      go_meet
      exact ⟨⟨_, _, rfl, rfl, bn10, bn11, le10, le11⟩, HW.out⟩
  case rest =>
    obtain ⟨hx, hb⟩ := hcut
    replace bA := bA.on hb
    replace bB := bB.on hb
    replace HB := Lib.hid (bel_end HB.out hb)
    clear hb
    obtain ⟨g1, g2, rfl, rfl, b_1, b_2, hg1, hg2⟩ := hx
    clear bA bB
    by_cases hx : X = 0
    case pos =>
      subst hx
      by_cases hy : Y = 0
      case pos =>
        subst hy
        have HT : Hid (dmB a1 a2 a3 a4 b1 b2 b3 b4 = true) := Lib.hid (by rw [HT0.out]; rfl)
        have b_1_0 := b_1.cell 0 rfl
        have b_1_1 := b_1.cell 1 rfl
        have b_1_l := b_1.lt
        have b_2_0 := b_2.cell 0 rfl
        have b_2_1 := b_2.cell 1 rfl
        have b_2_l := b_2.lt
        go_wp2
        go_ret2
        exact ⟨retbe HT.out HC.out, HB.out⟩
      case neg =>
        have hy2 : (Y == 0) = false := by simpa using hy
        have hz : ((0 : Int) == 0 && Y == 0) = false := by rw [hy2]; rfl
        clear hy
        have HT : Hid (dmB a1 a2 a3 a4 b1 b2 b3 b4 = ((C == 0) && decide (D < 0))) := Lib.hid (by rw [HT0.out, hz]; rfl)
        clear HT0 hz
        have b_1_0 := b_1.cell 0 rfl
        have b_1_1 := b_1.cell 1 rfl
        have b_1_l := b_1.lt
        have b_2_0 := b_2.cell 0 rfl
        have b_2_1 := b_2.cell 1 rfl
        have b_2_l := b_2.lt
        go_wp2_with fail
        refine (K4.out _).mono ?_
        rintro e w3 ⟨rfl, hb⟩
        replace b_1 := b_1.on hb
        replace b_2 := b_2.on hb
        replace HB := Lib.hid (bel_end HB.out hb)
        clear hb
        clear b_1_0 b_1_1 b_1_l b_2_0 b_2_1 b_2_l
        by_cases hc : C = 0
        case pos =>
          subst hc
          have b_1_0 := b_1.cell 0 rfl
          have b_1_1 := b_1.cell 1 rfl
          have b_1_l := b_1.lt
          have b_2_0 := b_2.cell 0 rfl
          have b_2_1 := b_2.cell 1 rfl
          have b_2_l := b_2.lt
          go_wp2_with fail
          refine (K1.out _).mono ?_
          rintro e w4 ⟨rfl, hb⟩
          replace b_1 := b_1.on hb
          replace b_2 := b_2.on hb
          replace HB := Lib.hid (bel_end HB.out hb)
          clear hb
          clear b_1_0 b_1_1 b_1_l b_2_0 b_2_1 b_2_l
          have b_1_0 := b_1.cell 0 rfl
          have b_1_1 := b_1.cell 1 rfl
          have b_1_l := b_1.lt
          have b_2_0 := b_2.cell 0 rfl
          have b_2_1 := b_2.cell 1 rfl
          have b_2_l := b_2.lt
          go_wp2
          go_ret2
          exact ⟨retbe (by rw [HT.out]; simp) HC.out, HB.out⟩
        case neg =>
          have hc2 : (C == 0) = false := by simpa using hc
          have HT2 : Hid (dmB a1 a2 a3 a4 b1 b2 b3 b4 = false) := Lib.hid (by rw [HT.out, hc2]; rfl)
          clear hc
          have b_1_0 := b_1.cell 0 rfl
          have b_1_1 := b_1.cell 1 rfl
          have b_1_l := b_1.lt
          have b_2_0 := b_2.cell 0 rfl
          have b_2_1 := b_2.cell 1 rfl
          have b_2_l := b_2.lt
          go_wp2
          go_ret2
          exact ⟨retbe HT2.out HC.out, HB.out⟩
    case neg =>
      have hx2 : (X == 0) = false := by simpa using hx
      have hz : (X == 0 && Y == 0) = false := by rw [hx2]; rfl
      clear hx
      have HT : Hid (dmB a1 a2 a3 a4 b1 b2 b3 b4 = ((C == 0) && decide (D < 0))) := Lib.hid (by rw [HT0.out, hz]; rfl)
      clear HT0 hz
      have b_1_0 := b_1.cell 0 rfl
      have b_1_1 := b_1.cell 1 rfl
      have b_1_l := b_1.lt
      have b_2_0 := b_2.cell 0 rfl
      have b_2_1 := b_2.cell 1 rfl
      have b_2_l := b_2.lt
      go_wp2_with fail
      refine (K4.out _).mono ?_
      rintro e w3 ⟨rfl, hb⟩
      replace b_1 := b_1.on hb
      replace b_2 := b_2.on hb
      replace HB := Lib.hid (bel_end HB.out hb)
      clear hb
      clear b_1_0 b_1_1 b_1_l b_2_0 b_2_1 b_2_l
      by_cases hc : C = 0
      case pos =>
        subst hc
        have b_1_0 := b_1.cell 0 rfl
        have b_1_1 := b_1.cell 1 rfl
        have b_1_l := b_1.lt
        have b_2_0 := b_2.cell 0 rfl
        have b_2_1 := b_2.cell 1 rfl
        have b_2_l := b_2.lt
        go_wp2_with fail
        refine (K1.out _).mono ?_
        rintro e w4 ⟨rfl, hb⟩
        replace b_1 := b_1.on hb
        replace b_2 := b_2.on hb
        replace HB := Lib.hid (bel_end HB.out hb)
        clear hb
        clear b_1_0 b_1_1 b_1_l b_2_0 b_2_1 b_2_l
        have b_1_0 := b_1.cell 0 rfl
        have b_1_1 := b_1.cell 1 rfl
        have b_1_l := b_1.lt
        have b_2_0 := b_2.cell 0 rfl
        have b_2_1 := b_2.cell 1 rfl
        have b_2_l := b_2.lt
        go_wp2
        go_ret2
        exact ⟨retbe (by rw [HT.out]; simp) HC.out, HB.out⟩
      case neg =>
        have hc2 : (C == 0) = false := by simpa using hc
        have HT2 : Hid (dmB a1 a2 a3 a4 b1 b2 b3 b4 = false) := Lib.hid (by rw [HT.out, hc2]; rfl)
        clear hc
        have b_1_0 := b_1.cell 0 rfl
        have b_1_1 := b_1.cell 1 rfl
        have b_1_l := b_1.lt
        have b_2_0 := b_2.cell 0 rfl
        have b_2_1 := b_2.cell 1 rfl
        have b_2_l := b_2.lt
        go_wp2
        go_ret2
        exact ⟨retbe HT2.out HC.out, HB.out⟩

theorem sdm_any (w : World) (a1 a2 a3 a4 b1 b2 b3 b4 : Int) : Calls Try.prog 36 #[.agg #[.int .i64 a1, .int .i64 a2, .int .i64 a3, .int .i64 a4], .agg #[.int .i64 b1, .int .i64 b2, .int .i64 b3, .int .i64 b4]] w fun e w' => e = .returned (.tuple #[.bool (dmB a1 a2 a3 a4 b1 b2 b3 b4), .int .i64 (dmC a1 a2 a3 a4 b1 b2 b3 b4)]) ∧ Below w.heap.size w w' := by
  cases hok : okT a1 a2 a3 a4 b1 b2 b3 b4
  · exact sdm_no w a1 a2 a3 a4 b1 b2 b3 b4 hok
  · exact sdm_ok w a1 a2 a3 a4 b1 b2 b3 b4 hok
end Go.Proofs.Ytkjpjhklnaehbaa
