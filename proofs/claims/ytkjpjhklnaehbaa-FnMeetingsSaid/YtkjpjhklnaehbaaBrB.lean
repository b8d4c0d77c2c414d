/- Contracts of turns between points, of cmp.Compare and cmp.Or at two numbers. -/
import Derived.Test.YtkjpjhklnaehbaaBrA
namespace Go.Proofs.Ytkjpjhklnaehbaa
open Go.ChangeShapes Go.WideShapes Go.ChangeAt Go.RowKit Go.Shelf Num
set_option linter.unusedVariables false
set_option linter.unusedSimpArgs false

set_option maxRecDepth 100000 in
set_option maxHeartbeats 2000000 in
theorem tt1_any (w : World) (a b c d : Int) (p1 : -4000000000000000000 ≤ a * d) (p2 : a * d ≤ 4000000000000000000) (q1 : -4000000000000000000 ≤ b * c) (q2 : b * c ≤ 4000000000000000000) :
    Calls Try.prog 80 #[.agg #[.int .i64 a, .int .i64 b], .agg #[.int .i64 c, .int .i64 d]] w fun e w' => e = .returned (.bool (decide (crs a b c d < 0))) ∧ Below w.heap.size w w' := by
  have K : Hid (∀ W : World, Calls Try.prog 60 #[.agg #[.int .i64 a, .int .i64 b], .agg #[.int .i64 c, .int .i64 d]] W fun e w' => e = .returned (.int .i64 (crs a b c d)) ∧ Below W.heap.size W w') := Lib.hid (fun W => icr_any W a b c d p1 p2 q1 q2)
  clear p1 p2 q1 q2
  obtain ⟨C, hC⟩ : ∃ u, crs a b c d = u := ⟨_, rfl⟩
  rw [hC] at K ⊢
  clear hC
  go_enter Try.func80, Try.ntmps80
  go_wp2_with fail
  generalize hW : World.alloc _ _ = W
  have HB : Hid (Below w.heap.size w W) := Lib.hid (by rw [← hW]; exact (by repeat (first | exact Below.refl _ _ | (refine Below.alloc ?_ (by simp <;> omega) _) | (refine Below.setCell ?_ (by simp <;> omega) _) | (refine Below.drew ?_) | (refine bel_drewN ?_ _))))
  clear hW
  (with_reducible refine Calls.mono (K.out _) ?_)
  rintro e w1 ⟨rfl, hb⟩
  replace HB := Lib.hid (bel_end HB.out hb)
  clear hb
  go_wp2
  go_ret
  exact ⟨rfl, HB.out⟩

set_option maxRecDepth 100000 in
set_option maxHeartbeats 2000000 in
theorem tt2_any (w : World) (a b c d : Int) (p1 : -4000000000000000000 ≤ a * d) (p2 : a * d ≤ 4000000000000000000) (q1 : -4000000000000000000 ≤ b * c) (q2 : b * c ≤ 4000000000000000000) :
    Calls Try.prog 81 #[.agg #[.int .i64 a, .int .i64 b], .agg #[.int .i64 c, .int .i64 d]] w fun e w' => e = .returned (.bool (decide (0 < crs a b c d))) ∧ Below w.heap.size w w' := by
  have K : Hid (∀ W : World, Calls Try.prog 60 #[.agg #[.int .i64 a, .int .i64 b], .agg #[.int .i64 c, .int .i64 d]] W fun e w' => e = .returned (.int .i64 (crs a b c d)) ∧ Below W.heap.size W w') := Lib.hid (fun W => icr_any W a b c d p1 p2 q1 q2)
  clear p1 p2 q1 q2
  obtain ⟨C, hC⟩ : ∃ u, crs a b c d = u := ⟨_, rfl⟩
  rw [hC] at K ⊢
  clear hC
  go_enter Try.func81, Try.ntmps81
  go_wp2_with fail
  generalize hW : World.alloc _ _ = W
  have HB : Hid (Below w.heap.size w W) := Lib.hid (by rw [← hW]; exact (by repeat (first | exact Below.refl _ _ | (refine Below.alloc ?_ (by simp <;> omega) _) | (refine Below.setCell ?_ (by simp <;> omega) _) | (refine Below.drew ?_) | (refine bel_drewN ?_ _))))
  clear hW
  (with_reducible refine Calls.mono (K.out _) ?_)
  rintro e w1 ⟨rfl, hb⟩
  replace HB := Lib.hid (bel_end HB.out hb)
  clear hb
  go_wp2
  go_ret
  exact ⟨rfl, HB.out⟩

set_option maxRecDepth 100000 in
set_option maxHeartbeats 2000000 in
theorem itt_any (w : World) (a b c d : Int) (p1 : -4000000000000000000 ≤ a * d) (p2 : a * d ≤ 4000000000000000000) (q1 : -4000000000000000000 ≤ b * c) (q2 : b * c ≤ 4000000000000000000) :
    Calls Try.prog 53 #[.agg #[.int .i64 a, .int .i64 b], .agg #[.int .i64 c, .int .i64 d]] w fun e w' => e = .returned (.int .i64 (-sg1 (crs a b c d))) ∧ Below w.heap.size w w' := by
  have K1 : Hid (∀ W : World, Calls Try.prog 80 #[.agg #[.int .i64 a, .int .i64 b], .agg #[.int .i64 c, .int .i64 d]] W fun e w' => e = .returned (.bool (decide (crs a b c d < 0))) ∧ Below W.heap.size W w') := Lib.hid (fun W => tt1_any W a b c d p1 p2 q1 q2)
  have K2 : Hid (∀ W : World, Calls Try.prog 81 #[.agg #[.int .i64 a, .int .i64 b], .agg #[.int .i64 c, .int .i64 d]] W fun e w' => e = .returned (.bool (decide (0 < crs a b c d))) ∧ Below W.heap.size W w') := Lib.hid (fun W => tt2_any W a b c d p1 p2 q1 q2)
  clear p1 p2 q1 q2
  obtain ⟨C, hC⟩ : ∃ u, crs a b c d = u := ⟨_, rfl⟩
  rw [hC] at K1 K2 ⊢
  clear hC
  go_enter Try.func53, Try.ntmps53
  go_wp2
  generalize hW : World.alloc _ _ = W0
  have bU : Bk W0 (w.heap.size) #[.int .i64 a, .int .i64 b] 25 := by rw [← hW]; repeat (first | (refine Bk.new' ?_; (simp; done)) | refine Bk.alloc ?_ _)
  have bV : Bk W0 (w.heap.size + 1) #[.int .i64 c, .int .i64 d] 25 := by rw [← hW]; repeat (first | (refine Bk.new' ?_; (simp; done)) | refine Bk.alloc ?_ _)
  have bT : Bk W0 (w.heap.size + 1 + 1) #[.int .i64 1, .func (.func 80) #[] #[], .int .i64 (-1), .func (.func 81) #[] #[]] 105 := by rw [← hW]; repeat (first | (refine Bk.new' ?_; (simp; done)) | refine Bk.alloc ?_ _)
  have hb : Below w.heap.size w W0 := by rw [← hW]; exact (by repeat (first | exact Below.refl _ _ | (refine Below.alloc ?_ (by simp <;> omega) _) | (refine Below.setCell ?_ (by simp <;> omega) _) | (refine Below.drew ?_) | (refine bel_drewN ?_ _)))
  clear hW
  have HU := Lib.hid bU
  have HV := Lib.hid bV
  have HTb := Lib.hid bT
  have HB0 := Lib.hid hb
  clear bU bV bT hb
  go_loopw [13] (fun i wr => ∃ k : Nat, k ≤ 2 ∧ i = .int .i64 k ∧ Below W0.heap.size W0 wr ∧ (0 < k → 0 ≤ C) ∧ (1 < k → C ≤ 0)) (fun i _ => 2 - (intOf i).toNat)
  case atStart => exact ⟨0, by omega, rfl, Below.refl _ _, fun h => by omega, fun h => by omega⟩
  case round =>
    obtain ⟨k, hk, rfl, hb, h1, h2⟩ := hrel
    have HB := Lib.hid hb
    have bU := HU.out.on hb
    have bV := HV.out.on hb
    have bT := HTb.out.on hb
    clear hb
    have H1 := Lib.hid h1
    have H2 := Lib.hid h2
    clear h1 h2
    obtain rfl | rfl | rfl : k = 0 ∨ k = 1 ∨ k = 2 := by omega
    case inl =>
      -- round 0
      have bU_0 := bU.cell 0 rfl
      have bU_1 := bU.cell 1 rfl
      have bU_l := bU.lt
      have bV_0 := bV.cell 0 rfl
      have bV_1 := bV.cell 1 rfl
      have bV_l := bV.lt
      have bT_0 := bT.cell 0 rfl
      have bT_1 := bT.cell 1 rfl
      have bT_2 := bT.cell 2 rfl
      have bT_3 := bT.cell 3 rfl
      have bT_l := bT.lt
      go_upto_region 5 with fail
      clear bU_0 bU_1 bU_l
      clear bV_0 bV_1 bV_l
      clear bT_0 bT_1 bT_2 bT_3 bT_l
      generalize hW : World.alloc _ _ = W1
      obtain ⟨g, hg⟩ : ∃ g, g = wr.heap.size := ⟨_, rfl⟩
      have bE : Bk W1 g #[.int .i64 1, .func (.func 80) #[] #[]] 105 := by rw [← hW]; exact Bk.new' hg
      have hb : Below wr.heap.size wr W1 := by rw [← hW]; exact (Below.refl _ _).alloc (Nat.le_refl _) _
      try rw [← hg]
      clear hW hg
      replace bU := bU.on hb
      replace bV := bV.on hb
      replace HB := Lib.hid (bel_end HB.out hb)
      clear hb bT
      have bU_0 := bU.cell 0 rfl
      have bU_1 := bU.cell 1 rfl
      have bU_l := bU.lt
      have bV_0 := bV.cell 0 rfl
      have bV_1 := bV.cell 1 rfl
      have bV_l := bV.lt
      have bE_0 := bE.cell 0 rfl
      have bE_1 := bE.cell 1 rfl
      have bE_l := bE.lt
      go_wp2_with fail
      clear bU_0 bU_1 bU_l
      clear bV_0 bV_1 bV_l
      clear bE_0 bE_1 bE_l
      (with_reducible refine Calls.mono (K1.out _) ?_)
      rintro e w2 ⟨rfl, hb⟩
      replace bE := bE.on hb
      replace HB := Lib.hid (bel_end HB.out hb)
      clear hb bU bV
      have bE_0 := bE.cell 0 rfl
      have bE_1 := bE.cell 1 rfl
      have bE_l := bE.lt
      by_cases hc : C < 0
      · go_wp2
        go_ret
        exact ⟨ret_int (by rw [sg1_lt hc]; rfl), HB0.out.trans (HB.out.mono HB0.out.size)⟩
      · go_wp2
        go_roundw
        case rel => exact ⟨1, by omega, by go_num, HB.out, fun _ => hc, fun h => by omega⟩
        case measure => simp [intOf]
    case inr.inl =>
      -- round 1
      have bU_0 := bU.cell 0 rfl
      have bU_1 := bU.cell 1 rfl
      have bU_l := bU.lt
      have bV_0 := bV.cell 0 rfl
      have bV_1 := bV.cell 1 rfl
      have bV_l := bV.lt
      have bT_0 := bT.cell 0 rfl
      have bT_1 := bT.cell 1 rfl
      have bT_2 := bT.cell 2 rfl
      have bT_3 := bT.cell 3 rfl
      have bT_l := bT.lt
      go_upto_region 5 with fail
      clear bU_0 bU_1 bU_l
      clear bV_0 bV_1 bV_l
      clear bT_0 bT_1 bT_2 bT_3 bT_l
      generalize hW : World.alloc _ _ = W1
      obtain ⟨g, hg⟩ : ∃ g, g = wr.heap.size := ⟨_, rfl⟩
      have bE : Bk W1 g #[.int .i64 (-1), .func (.func 81) #[] #[]] 105 := by rw [← hW]; exact Bk.new' hg
      have hb : Below wr.heap.size wr W1 := by rw [← hW]; exact (Below.refl _ _).alloc (Nat.le_refl _) _
      try rw [← hg]
      clear hW hg
      replace bU := bU.on hb
      replace bV := bV.on hb
      replace HB := Lib.hid (bel_end HB.out hb)
      clear hb bT
      have bU_0 := bU.cell 0 rfl
      have bU_1 := bU.cell 1 rfl
      have bU_l := bU.lt
      have bV_0 := bV.cell 0 rfl
      have bV_1 := bV.cell 1 rfl
      have bV_l := bV.lt
      have bE_0 := bE.cell 0 rfl
      have bE_1 := bE.cell 1 rfl
      have bE_l := bE.lt
      go_wp2_with fail
      clear bU_0 bU_1 bU_l
      clear bV_0 bV_1 bV_l
      clear bE_0 bE_1 bE_l
      (with_reducible refine Calls.mono (K2.out _) ?_)
      rintro e w2 ⟨rfl, hb⟩
      replace bE := bE.on hb
      replace HB := Lib.hid (bel_end HB.out hb)
      clear hb bU bV
      have bE_0 := bE.cell 0 rfl
      have bE_1 := bE.cell 1 rfl
      have bE_l := bE.lt
      by_cases hc : 0 < C
      · go_wp2
        go_ret
        exact ⟨ret_int (by rw [sg1_pos hc]), HB0.out.trans (HB.out.mono HB0.out.size)⟩
      · go_wp2
        go_roundw
        case rel => exact ⟨2, by omega, by go_num, HB.out, fun _ => H1.out (by omega), fun _ => hc⟩
        case measure => simp [intOf]
    case inr.inr =>
      have HZ : Hid (-sg1 C = 0) := Lib.hid (by rw [sg1_zero (by have := H1.out (by omega); have := H2.out (by omega); omega)]; rfl)
      go_wp2
      go_ret
      exact ⟨ret_int HZ.out.symm, HB0.out.trans (HB.out.mono HB0.out.size)⟩

set_option maxRecDepth 100000 in
set_option maxHeartbeats 2000000 in
theorem nan_any (w : World) (x : Int) :
    Calls Try.prog 82 #[.int .i64 x] w fun e w' => e = .returned (.bool false) ∧ w = w' := by
  go_enter Try.func82, Try.ntmps82
  go_wp2
  go_ret
  exact ⟨ret_bool (by simp), rfl⟩

set_option maxRecDepth 100000 in
set_option maxHeartbeats 2000000 in
theorem cmp_any (w : World) (x y : Int) :
    Calls Try.prog 56 #[.int .i64 x, .int .i64 y] w fun e w' => e = .returned (.int .i64 (sgn x y)) ∧ w = w' := by
  by_cases h1 : x < y
  · go_enter Try.func56, Try.ntmps56
    go_wp2_with (go_at_call 82; refine (nan_any _ _).mono ?_; rintro e w' ⟨rfl, rfl⟩)
    go_ret
    exact ⟨ret_int (by unfold sgn; rw [if_pos h1]), rfl⟩
  · by_cases h2 : y < x
    · go_enter Try.func56, Try.ntmps56
      go_wp2_with (go_at_call 82; refine (nan_any _ _).mono ?_; rintro e w' ⟨rfl, rfl⟩)
      go_ret
      exact ⟨ret_int (by unfold sgn; rw [if_neg (by omega), if_pos h2]), rfl⟩
    · go_enter Try.func56, Try.ntmps56
      go_wp2_with (go_at_call 82; refine (nan_any _ _).mono ?_; rintro e w' ⟨rfl, rfl⟩)
      go_ret
      exact ⟨ret_int (by unfold sgn; rw [if_neg (by omega), if_neg (by omega)]), rfl⟩

set_option maxHeartbeats 2000000 in
theorem cor_any2 (w : World) (g : Nat) (x y : Int) (hb : Bk w g #[.int .i64 x, .int .i64 y] 2) :
    Calls Try.prog 58 #[.slice (some ⟨g, 0, none⟩) 2 2] w fun e w' => e = .returned (.int .i64 (if x = 0 then y else x)) ∧ w = w' := by
  have c0 := hb.cell 0 rfl
  have c1 := hb.cell 1 rfl
  have cl := hb.lt
  clear hb
  go_enter Try.func58, Try.ntmps58
  go_wp2
  go_loop [8] (fun i => ∃ k : Nat, k ≤ 2 ∧ i = .int .i64 k ∧ (0 < k → x = 0) ∧ (1 < k → y = 0)) (fun i => 2 - (intOf i).toNat)
  case atStart => exact ⟨0, by omega, rfl, fun h => by omega, fun h => by omega⟩
  case round =>
    obtain ⟨k, hk, rfl, h1, h2⟩ := hrel
    have H1 := Lib.hid h1
    have H2 := Lib.hid h2
    clear h1 h2
    obtain rfl | rfl | rfl : k = 0 ∨ k = 1 ∨ k = 2 := by omega
    case inl =>
      by_cases hx : x = 0
      · subst hx
        go_wp2
        go_round
        case rel => exact ⟨1, by omega, by go_num, fun _ => by trivial, fun h => by omega⟩
        case measure => simp [intOf]
      · have hx2 : (x != 0) = true := by simpa using hx
        have HX := Lib.hid hx
        clear hx
        go_wp2
        go_ret
        exact ⟨by first | rfl | exact ret_int (by rw [if_neg HX.out]), rfl⟩
    case inr.inl =>
      have HX := Lib.hid (H1.out (by omega))
      by_cases hy : y = 0
      · subst hy
        go_wp2
        go_round
        case rel => exact ⟨2, by omega, by go_num, fun _ => HX.out, fun _ => by trivial⟩
        case measure => simp [intOf]
      · have hy2 : (y != 0) = true := by simpa using hy
        clear hy
        go_wp2
        go_ret
        exact ⟨by first | rfl | exact ret_int (by rw [if_pos HX.out]), rfl⟩
    case inr.inr =>
      have HX := Lib.hid (H1.out (by omega))
      have HY := Lib.hid (H2.out (by omega))
      go_wp2
      go_ret
      exact ⟨by first | exact ret_int (by rw [if_pos HX.out, HY.out]) | exact ret_int HY.out.symm, rfl⟩
end Go.Proofs.Ytkjpjhklnaehbaa
