/- Contracts of PositionAt and BearingDrift, the program's and the model's. -/
import Derived.Test.YtkjpjhklnaehbaaBrF
namespace Go.Proofs.Ytkjpjhklnaehbaa
open Go.ChangeShapes Go.WideShapes Go.ChangeAt Go.RowKit Go.Shelf Num
set_option linter.unusedVariables false
set_option linter.unusedSimpArgs false

set_option maxRecDepth 100000 in
set_option maxHeartbeats 8000000 in
theorem ipo_any (w : World) (x y s t u : Int) :
    Calls Try.prog 28 #[.agg #[.int .i64 x, .int .i64 y, .int .i64 s, .int .i64 t], .int .i64 u] w fun e w' => e = .returned (.tuple #[.agg #[.int .i64 (poT x y s t u).1, .int .i64 (poT x y s t u).2.1], .int .i64 (poT x y s t u).2.2]) ∧ Below w.heap.size w w' := by
  obtain ⟨V, hV⟩ : ∃ q, tkB x y s t = q := ⟨_, rfl⟩
  obtain ⟨U, hU⟩ : ∃ q, inB u 0 1000 = q := ⟨_, rfl⟩
  have HT : poT x y s t u = if V then (if U then (if ptB 100000 (x + u * s) (y + u * t) then (x + u * s, y + u * t, 0) else (0, 0, 3)) else (0, 0, 2)) else (0, 0, 1) := by unfold poT; rw [hV, hU]
  have KV : Hid (∀ W : World, Calls Try.prog 64 #[.agg #[.int .i64 x, .int .i64 y, .int .i64 s, .int .i64 t]] W fun e w' => e = .returned (.bool V) ∧ Below W.heap.size W w') := Lib.hid (fun W => by have := itv_any W x y s t; rwa [hV] at this)
  have KU : Hid (∀ W : World, Calls Try.prog 65 #[.int .i64 u] W fun e w' => e = .returned (.bool U) ∧ Below W.heap.size W w') := Lib.hid (fun W => by have := iti_any W u; rwa [hU] at this)
  have KM : Hid (V = true → U = true → ∀ (W : World) (g : Nat), Bk W g #[.int .i64 x, .int .i64 y, .int .i64 s, .int .i64 t] 44 → Calls Try.prog 66 #[.pointer (some ⟨g, 0, none⟩), .int .i64 u] W fun e w' => e = .returned (.tuple #[]) ∧ Bk w' g #[.int .i64 (x + u * s), .int .i64 (y + u * t), .int .i64 s, .int .i64 t] 44 ∧ W.grownBy w' (some g)) := Lib.hid (fun e1 e2 W g hb => by have k := tkB_t (hV.trans e1); have l := inB_t (hU.trans e2); exact mov_any W g x y s t u (by omega) (by omega) (by omega) (by omega) (by omega) (by omega) (by omega) (by omega) (by omega) (by omega) hb)
  obtain ⟨X, hX⟩ : ∃ q, x + u * s = q := ⟨_, rfl⟩
  obtain ⟨Y, hY⟩ : ∃ q, y + u * t = q := ⟨_, rfl⟩
  rw [hX, hY] at HT KM
  obtain ⟨Q, hQ⟩ : ∃ q, ptB 100000 X Y = q := ⟨_, rfl⟩
  rw [hQ] at HT
  replace HT := Lib.hid HT
  have KQ : Hid (∀ W : World, Calls Try.prog 52 #[.agg #[.int .i64 X, .int .i64 Y]] W fun e w' => e = .returned (.bool Q) ∧ Below W.heap.size W w') := Lib.hid (fun W => by have := ipt_any W X Y; rwa [hQ] at this)
  clear hV hU hQ
  clear hX hY
  go_enter Try.func28, Try.ntmps28
  go_wp2_with fail
  generalize hW : World.alloc _ _ = W
  have bA : Bk W (w.heap.size) #[.int .i64 x, .int .i64 y, .int .i64 s, .int .i64 t] 44 := by rw [← hW]; repeat (first | (refine Bk.new' ?_; (simp; done)) | refine Bk.alloc ?_ _)
  have bR : Bk W (w.heap.size + 1) #[.int .i64 0, .int .i64 0] 25 := by rw [← hW]; repeat (first | (refine Bk.new' ?_; (simp; done)) | refine Bk.alloc ?_ _)
  have HB : Hid (Below w.heap.size w W) := Lib.hid (by rw [← hW]; exact (by repeat (first | exact Below.refl _ _ | (refine Below.alloc ?_ (by simp <;> omega) _) | (refine Below.setCell ?_ (by simp <;> omega) _) | (refine Below.drew ?_) | (refine bel_drewN ?_ _))))
  clear hW
  refine (KV.out _).mono ?_
  rintro e w1 ⟨rfl, hb⟩
  replace bA := bA.on hb
  replace bR := bR.on hb
  replace HB := Lib.hid (bel_end HB.out hb)
  clear hb
  cases hP : V
  case false =>
    subst hP
    have bA_0 := bA.cell 0 rfl
    have bA_1 := bA.cell 1 rfl
    have bA_2 := bA.cell 2 rfl
    have bA_3 := bA.cell 3 rfl
    have bA_l := bA.lt
    have bR_0 := bR.cell 0 rfl
    have bR_1 := bR.cell 1 rfl
    have bR_l := bR.lt
    have bR_f0 := bR.frozen 0
    have bR_f1 := bR.frozen 1
    go_wp2
    exact bodyPost_ret (v := .tuple #[.agg #[.int .i64 0, .int .i64 0], .int .i64 1]) (by simp [results, Try.results28, go_sem, bR_0, bR_f0, bR_1, bR_f1, bR_l]) rfl ⟨res3r (by rw [HT.out]; rfl), (by repeat (first | exact HB.out | (refine Below.setCell ?_ (by simp <;> omega) _) | (refine Below.alloc ?_ (by simp <;> omega) _) | (refine Below.drew ?_)))⟩
  case true =>
    subst hP
    have bA_0 := bA.cell 0 rfl
    have bA_1 := bA.cell 1 rfl
    have bA_2 := bA.cell 2 rfl
    have bA_3 := bA.cell 3 rfl
    have bA_l := bA.lt
    have bR_0 := bR.cell 0 rfl
    have bR_1 := bR.cell 1 rfl
    have bR_l := bR.lt
    go_wp2_with fail
    refine (KU.out _).mono ?_
    rintro e w2 ⟨rfl, hb⟩
    replace bA := bA.on hb
    replace bR := bR.on hb
    replace HB := Lib.hid (bel_end HB.out hb)
    clear hb
    clear bA_0 bA_1 bA_2 bA_3 bA_l bR_0 bR_1 bR_l
    cases hP : U
    case false =>
      subst hP
      have bA_0 := bA.cell 0 rfl
      have bA_1 := bA.cell 1 rfl
      have bA_2 := bA.cell 2 rfl
      have bA_3 := bA.cell 3 rfl
      have bA_l := bA.lt
      have bR_0 := bR.cell 0 rfl
      have bR_1 := bR.cell 1 rfl
      have bR_l := bR.lt
      have bR_f0 := bR.frozen 0
      have bR_f1 := bR.frozen 1
      go_wp2
      exact bodyPost_ret (v := .tuple #[.agg #[.int .i64 0, .int .i64 0], .int .i64 2]) (by simp [results, Try.results28, go_sem, bR_0, bR_f0, bR_1, bR_f1, bR_l]) rfl ⟨res3r (by rw [HT.out]; rfl), (by repeat (first | exact HB.out | (refine Below.setCell ?_ (by simp <;> omega) _) | (refine Below.alloc ?_ (by simp <;> omega) _) | (refine Below.drew ?_)))⟩
    case true =>
      subst hP
      have bA_0 := bA.cell 0 rfl
      have bA_1 := bA.cell 1 rfl
      have bA_2 := bA.cell 2 rfl
      have bA_3 := bA.cell 3 rfl
      have bA_l := bA.lt
      have bR_0 := bR.cell 0 rfl
      have bR_1 := bR.cell 1 rfl
      have bR_l := bR.lt
      go_wp2_with fail
      refine (KM.out (by trivial) (by trivial) _ _ bA).mono ?_
      rintro e w9 ⟨rfl, bA2, hgr⟩
      clear bA_0 bA_1 bA_2 bA_3 bA_l bR_0 bR_1 bR_l
      have hb : Below w.heap.size w2 w9 := below_of_grown hgr (Nat.le_refl _) HB.out.size
      replace HB := Lib.hid (HB.out.trans hb)
      replace bR := bR.kept hgr (by simp)
      replace bA := bA2
      clear bA2 hgr hb
      have bA_0 := bA.cell 0 rfl
      have bA_1 := bA.cell 1 rfl
      have bA_2 := bA.cell 2 rfl
      have bA_3 := bA.cell 3 rfl
      have bA_l := bA.lt
      have bR_0 := bR.cell 0 rfl
      have bR_1 := bR.cell 1 rfl
      have bR_l := bR.lt
      go_wp2_with fail
      refine (KQ.out _).mono ?_
      rintro e w3 ⟨rfl, hb⟩
      replace bA := bA.on hb
      replace bR := bR.on hb
      replace HB := Lib.hid (bel_end HB.out hb)
      clear hb
      clear bA_0 bA_1 bA_2 bA_3 bA_l bR_0 bR_1 bR_l
      cases hP : Q
      case false =>
        subst hP
        have bA_0 := bA.cell 0 rfl
        have bA_1 := bA.cell 1 rfl
        have bA_2 := bA.cell 2 rfl
        have bA_3 := bA.cell 3 rfl
        have bA_l := bA.lt
        have bR_0 := bR.cell 0 rfl
        have bR_1 := bR.cell 1 rfl
        have bR_l := bR.lt
        have bR_f0 := bR.frozen 0
        have bR_f1 := bR.frozen 1
        go_wp2
        exact bodyPost_ret (v := .tuple #[.agg #[.int .i64 0, .int .i64 0], .int .i64 3]) (by simp [results, Try.results28, go_sem, bR_0, bR_f0, bR_1, bR_f1, bR_l]) rfl ⟨res3r (by rw [HT.out]; rfl), (by repeat (first | exact HB.out | (refine Below.setCell ?_ (by simp <;> omega) _) | (refine Below.alloc ?_ (by simp <;> omega) _) | (refine Below.drew ?_)))⟩
      case true =>
        subst hP
        have bA_0 := bA.cell 0 rfl
        have bA_1 := bA.cell 1 rfl
        have bA_2 := bA.cell 2 rfl
        have bA_3 := bA.cell 3 rfl
        have bA_l := bA.lt
        have bR_0 := bR.cell 0 rfl
        have bR_1 := bR.cell 1 rfl
        have bR_l := bR.lt
        have bR_f0 := bR.frozen 0
        have bR_f1 := bR.frozen 1
        go_wp2
        exact bodyPost_ret (v := .tuple #[.agg #[.int .i64 X, .int .i64 Y], .int .i64 0]) (by simp [results, Try.results28, go_sem, bR_0, bR_f0, bR_1, bR_f1, bR_l]) rfl ⟨res3r (by rw [HT.out]; rfl), (by repeat (first | exact HB.out | (refine Below.setCell ?_ (by simp <;> omega) _) | (refine Below.alloc ?_ (by simp <;> omega) _) | (refine Below.drew ?_)))⟩

set_option maxRecDepth 100000 in
set_option maxHeartbeats 8000000 in
theorem spo_any (w : World) (x y s t u : Int) :
    Calls Try.prog 26 #[.agg #[.int .i64 x, .int .i64 y, .int .i64 s, .int .i64 t], .int .i64 u] w fun e w' => e = .returned (.tuple #[.agg #[.int .i64 (poT x y s t u).1, .int .i64 (poT x y s t u).2.1], .int .i64 (poT x y s t u).2.2]) ∧ Below w.heap.size w w' := by
  obtain ⟨V, hV⟩ : ∃ q, tkB x y s t = q := ⟨_, rfl⟩
  obtain ⟨U, hU⟩ : ∃ q, inB u 0 1000 = q := ⟨_, rfl⟩
  have HT : poT x y s t u = if V then (if U then (if ptB 100000 (x + u * s) (y + u * t) then (x + u * s, y + u * t, 0) else (0, 0, 3)) else (0, 0, 2)) else (0, 0, 1) := by unfold poT; rw [hV, hU]
  have KV : Hid (∀ W : World, Calls Try.prog 62 #[.agg #[.int .i64 x, .int .i64 y, .int .i64 s, .int .i64 t]] W fun e w' => e = .returned (.bool V) ∧ Below W.heap.size W w') := Lib.hid (fun W => by have := ltk_any W x y s t; rwa [hV] at this)
  have KU : Hid (∀ W : World, Calls Try.prog 63 #[.int .i64 u, .int .i64 0, .int .i64 1000] W fun e w' => e = .returned (.bool U) ∧ W = w') := Lib.hid (fun W => by have := lin_any u 0 1000 W; rwa [hU] at this)
  obtain ⟨X, hX⟩ : ∃ q, x + u * s = q := ⟨_, rfl⟩
  obtain ⟨Y, hY⟩ : ∃ q, y + u * t = q := ⟨_, rfl⟩
  have HW1 : Hid (V = true → U = true → IntKind.wrap .i64 (u * s) = u * s ∧ IntKind.wrap .i64 (u * t) = u * t ∧ IntKind.wrap .i64 (x + u * s) = X ∧ IntKind.wrap .i64 (y + u * t) = Y) := Lib.hid (fun e1 e2 => by have k := tkB_t (hV.trans e1); have l := inB_t (hU.trans e2); have m1 := mul_abs (a := u) (n := s) (A := 1000) (N := 2000) (by omega) (by omega); have m2 := mul_abs (a := u) (n := t) (A := 1000) (N := 2000) (by omega) (by omega); rw [← hX, ← hY]; exact ⟨IntWalk.i64_in _ (by omega), IntWalk.i64_in _ (by omega), IntWalk.i64_in _ (by omega), IntWalk.i64_in _ (by omega)⟩)
  rw [hX, hY] at HT
  obtain ⟨Q, hQ⟩ : ∃ q, ptB 100000 X Y = q := ⟨_, rfl⟩
  rw [hQ] at HT
  replace HT := Lib.hid HT
  have KQ : Hid (∀ W : World, Calls Try.prog 47 #[.agg #[.int .i64 X, .int .i64 Y], .int .i64 100000] W fun e w' => e = .returned (.bool Q) ∧ Below W.heap.size W w') := Lib.hid (fun W => by have := lpt_any W 100000 X Y (by omega) (by omega); rwa [hQ] at this)
  clear hV hU hQ
  clear hX hY
  go_enter Try.func26, Try.ntmps26
  go_wp2_with fail
  generalize hW : World.alloc _ _ = W
  have bA : Bk W (w.heap.size) #[.int .i64 x, .int .i64 y, .int .i64 s, .int .i64 t] 44 := by rw [← hW]; repeat (first | (refine Bk.new' ?_; (simp; done)) | refine Bk.alloc ?_ _)
  have bR : Bk W (w.heap.size + 1) #[.int .i64 0, .int .i64 0] 25 := by rw [← hW]; repeat (first | (refine Bk.new' ?_; (simp; done)) | refine Bk.alloc ?_ _)
  have HB : Hid (Below w.heap.size w W) := Lib.hid (by rw [← hW]; exact (by repeat (first | exact Below.refl _ _ | (refine Below.alloc ?_ (by simp <;> omega) _) | (refine Below.setCell ?_ (by simp <;> omega) _) | (refine Below.drew ?_) | (refine bel_drewN ?_ _))))
  clear hW
  refine (KV.out _).mono ?_
  rintro e w1 ⟨rfl, hb⟩
  replace bA := bA.on hb
  replace bR := bR.on hb
  replace HB := Lib.hid (bel_end HB.out hb)
  clear hb
  cases hP : V
  case false =>
    subst hP
    have bA_0 := bA.cell 0 rfl
    have bA_1 := bA.cell 1 rfl
    have bA_2 := bA.cell 2 rfl
    have bA_3 := bA.cell 3 rfl
    have bA_l := bA.lt
    have bR_0 := bR.cell 0 rfl
    have bR_1 := bR.cell 1 rfl
    have bR_l := bR.lt
    have bR_f0 := bR.frozen 0
    have bR_f1 := bR.frozen 1
    go_wp2
    exact bodyPost_ret (v := .tuple #[.agg #[.int .i64 0, .int .i64 0], .int .i64 1]) (by simp [results, Try.results26, go_sem, bR_0, bR_f0, bR_1, bR_f1, bR_l]) rfl ⟨res3r (by rw [HT.out]; rfl), (by repeat (first | exact HB.out | (refine Below.setCell ?_ (by simp <;> omega) _) | (refine Below.alloc ?_ (by simp <;> omega) _) | (refine Below.drew ?_)))⟩
  case true =>
    subst hP
    have bA_0 := bA.cell 0 rfl
    have bA_1 := bA.cell 1 rfl
    have bA_2 := bA.cell 2 rfl
    have bA_3 := bA.cell 3 rfl
    have bA_l := bA.lt
    have bR_0 := bR.cell 0 rfl
    have bR_1 := bR.cell 1 rfl
    have bR_l := bR.lt
    go_wp2_with fail
    refine (KU.out _).mono ?_
    rintro e wq ⟨rfl, hwq⟩
    subst hwq
    clear bA_0 bA_1 bA_2 bA_3 bA_l bR_0 bR_1 bR_l
    cases hP : U
    case false =>
      subst hP
      have bA_0 := bA.cell 0 rfl
      have bA_1 := bA.cell 1 rfl
      have bA_2 := bA.cell 2 rfl
      have bA_3 := bA.cell 3 rfl
      have bA_l := bA.lt
      have bR_0 := bR.cell 0 rfl
      have bR_1 := bR.cell 1 rfl
      have bR_l := bR.lt
      have bR_f0 := bR.frozen 0
      have bR_f1 := bR.frozen 1
      go_wp2
      exact bodyPost_ret (v := .tuple #[.agg #[.int .i64 0, .int .i64 0], .int .i64 2]) (by simp [results, Try.results26, go_sem, bR_0, bR_f0, bR_1, bR_f1, bR_l]) rfl ⟨res3r (by rw [HT.out]; rfl), (by repeat (first | exact HB.out | (refine Below.setCell ?_ (by simp <;> omega) _) | (refine Below.alloc ?_ (by simp <;> omega) _) | (refine Below.drew ?_)))⟩
    case true =>
      subst hP
      obtain ⟨e1, e2, e3, e4⟩ := HW1.out (by trivial) (by trivial)
      clear HW1
      have bA_0 := bA.cell 0 rfl
      have bA_1 := bA.cell 1 rfl
      have bA_2 := bA.cell 2 rfl
      have bA_3 := bA.cell 3 rfl
      have bA_l := bA.lt
      have bR_0 := bR.cell 0 rfl
      have bR_1 := bR.cell 1 rfl
      have bR_l := bR.lt
      go_upto_region 6 with fail
      clear bA_0 bA_1 bA_2 bA_3 bA_l bR_0 bR_1 bR_l
      clear e1 e2 e3 e4
      generalize hW : World.alloc _ _ = WN
      obtain ⟨gN, hg⟩ : ∃ g, g = w1.heap.size := ⟨_, rfl⟩
      have bN : Bk WN gN #[.int .i64 X, .int .i64 Y] 25 := by rw [← hW]; exact Bk.new' hg
      have hb : Below w1.heap.size w1 WN := by rw [← hW]; exact (Below.refl _ _).alloc (Nat.le_refl _) _
      have ne_R : gN ≠ w.heap.size + 1 := by have := bR.lt; omega
      try rw [← hg]
      clear hW hg
      replace bA := bA.on hb
      replace bR := bR.on hb
      replace HB := Lib.hid (bel_end HB.out hb)
      clear hb bA
      have bR_0 := bR.cell 0 rfl
      have bR_1 := bR.cell 1 rfl
      have bR_l := bR.lt
      have bN_0 := bN.cell 0 rfl
      have bN_1 := bN.cell 1 rfl
      have bN_l := bN.lt
      go_wp2_with fail
      refine (KQ.out _).mono ?_
      rintro e w2 ⟨rfl, hb⟩
      replace bR := bR.on hb
      replace bN := bN.on hb
      replace HB := Lib.hid (bel_end HB.out hb)
      clear hb
      clear bR_0 bR_1 bR_l bN_0 bN_1 bN_l
      cases hP : Q
      case false =>
        subst hP
        have bR_0 := bR.cell 0 rfl
        have bR_1 := bR.cell 1 rfl
        have bR_l := bR.lt
        have bN_0 := bN.cell 0 rfl
        have bN_1 := bN.cell 1 rfl
        have bN_l := bN.lt
        have bR_f0 := bR.frozen 0
        have bR_f1 := bR.frozen 1
        go_wp2
        exact bodyPost_ret (v := .tuple #[.agg #[.int .i64 0, .int .i64 0], .int .i64 3]) (by simp [results, Try.results26, go_sem, bR_0, bR_f0, bR_1, bR_f1, bR_l]) rfl ⟨res3r (by rw [HT.out]; rfl), (by repeat (first | exact HB.out | (refine Below.setCell ?_ (by simp <;> omega) _) | (refine Below.alloc ?_ (by simp <;> omega) _) | (refine Below.drew ?_)))⟩
      case true =>
        subst hP
        have bR_0 := bR.cell 0 rfl
        have bR_1 := bR.cell 1 rfl
        have bR_l := bR.lt
        have bN_0 := bN.cell 0 rfl
        have bN_1 := bN.cell 1 rfl
        have bN_l := bN.lt
        have bR_f0 := bR.frozen 0
        have bR_f1 := bR.frozen 1
        go_wp2
        exact bodyPost_ret (v := .tuple #[.agg #[.int .i64 X, .int .i64 Y], .int .i64 0]) (by simp [results, Try.results26, go_sem, bR_0, bR_f0, bR_1, bR_f1, bR_l]) rfl ⟨res3r (by rw [HT.out]; rfl), (by repeat (first | exact HB.out | (refine Below.setCell ?_ (by simp <;> omega) _) | (refine Below.alloc ?_ (by simp <;> omega) _) | (refine Below.drew ?_)))⟩

set_option maxRecDepth 100000 in
set_option maxHeartbeats 8000000 in
theorem ibd_no (w : World) (a1 a2 a3 a4 b1 b2 b3 b4 u : Int) (hok : okT a1 a2 a3 a4 b1 b2 b3 b4 = false) :
    Calls Try.prog 35 #[.agg #[.int .i64 a1, .int .i64 a2, .int .i64 a3, .int .i64 a4], .agg #[.int .i64 b1, .int .i64 b2, .int .i64 b3, .int .i64 b4], .int .i64 u] w fun e w' => e = .returned (.tuple #[.int .i64 (bdR a1 a2 a3 a4 b1 b2 b3 b4 u), .int .i64 (bdC a1 a2 a3 a4 b1 b2 b3 b4 u)]) ∧ Below w.heap.size w w' := by
  have HT : Hid (bdR a1 a2 a3 a4 b1 b2 b3 b4 u = 0 ∧ bdC a1 a2 a3 a4 b1 b2 b3 b4 u = 1) := Lib.hid (have e : bdC a1 a2 a3 a4 b1 b2 b3 b4 u = 1 := (by unfold bdC; rw [hok]; rfl); ⟨by unfold bdR; rw [e]; rfl, e⟩)
  have KS : Hid (∀ W : World, Calls Try.prog 68 #[.agg #[.int .i64 a1, .int .i64 a2, .int .i64 a3, .int .i64 a4], .agg #[.int .i64 b1, .int .i64 b2, .int .i64 b3, .int .i64 b4]] W fun e w' => e = .returned (.tuple #[.agg #[.int .i64 0, .int .i64 0, .int .i64 0, .int .i64 0], .int .i64 1]) ∧ Below W.heap.size W w') := Lib.hid (fun W => ise_no W a1 a2 a3 a4 b1 b2 b3 b4 hok)
  clear hok
  go_enter Try.func35, Try.ntmps35
  go_wp2_with fail
  generalize hW : World.alloc _ _ = W
  have bA : Bk W (w.heap.size) #[.int .i64 a1, .int .i64 a2, .int .i64 a3, .int .i64 a4] 44 := by rw [← hW]; repeat (first | (refine Bk.new' ?_; (simp; done)) | refine Bk.alloc ?_ _)
  have bB : Bk W (w.heap.size + 1) #[.int .i64 b1, .int .i64 b2, .int .i64 b3, .int .i64 b4] 44 := by rw [← hW]; repeat (first | (refine Bk.new' ?_; (simp; done)) | refine Bk.alloc ?_ _)
  have HB : Hid (Below w.heap.size w W) := Lib.hid (by rw [← hW]; exact (by repeat (first | exact Below.refl _ _ | (refine Below.alloc ?_ (by simp <;> omega) _) | (refine Below.setCell ?_ (by simp <;> omega) _) | (refine Below.drew ?_) | (refine bel_drewN ?_ _))))
  clear hW
  refine (KS.out _).mono ?_
  rintro e w1 ⟨rfl, hb⟩
  replace bA := bA.on hb
  replace bB := bB.on hb
  replace HB := Lib.hid (bel_end HB.out hb)
  clear hb
  have bA_0 := bA.cell 0 rfl
  have bA_1 := bA.cell 1 rfl
  have bA_2 := bA.cell 2 rfl
  have bA_3 := bA.cell 3 rfl
  have bA_l := bA.lt
  have bB_0 := bB.cell 0 rfl
  have bB_1 := bB.cell 1 rfl
  have bB_2 := bB.cell 2 rfl
  have bB_3 := bB.cell 3 rfl
  have bB_l := bB.lt
  go_upto_region 2 with fail
  clear bA_0 bA_1 bA_2 bA_3 bA_l bB_0 bB_1 bB_2 bB_3 bB_l
  generalize hW : World.alloc _ _ = WN
  obtain ⟨gN, hg⟩ : ∃ g, g = w1.heap.size := ⟨_, rfl⟩
  have bN : Bk WN gN #[.int .i64 0, .int .i64 0, .int .i64 0, .int .i64 0] 44 := by rw [← hW]; exact Bk.new' hg
  have hb : Below w1.heap.size w1 WN := by rw [← hW]; exact (Below.refl _ _).alloc (Nat.le_refl _) _
  have ne_bA : gN ≠ w.heap.size := by have := bA.lt; omega
  have ne_bB : gN ≠ w.heap.size + 1 := by have := bB.lt; omega
  have leN : w.heap.size ≤ gN := by rw [hg]; exact HB.out.size
  try rw [← hg]
  clear hW hg
  replace bA := bA.on hb
  replace bB := bB.on hb
  replace HB := Lib.hid (bel_end HB.out hb)
  clear hb
  have bA_0 := bA.cell 0 rfl
  have bA_1 := bA.cell 1 rfl
  have bA_2 := bA.cell 2 rfl
  have bA_3 := bA.cell 3 rfl
  have bA_l := bA.lt
  have bB_0 := bB.cell 0 rfl
  have bB_1 := bB.cell 1 rfl
  have bB_2 := bB.cell 2 rfl
  have bB_3 := bB.cell 3 rfl
  have bB_l := bB.lt
  have bN_0 := bN.cell 0 rfl
  have bN_1 := bN.cell 1 rfl
  have bN_2 := bN.cell 2 rfl
  have bN_3 := bN.cell 3 rfl
  have bN_l := bN.lt
  go_wp2
  go_ret2
  exact ⟨ret2e HT.out.1 HT.out.2, HB.out⟩

set_option maxRecDepth 100000 in
set_option maxHeartbeats 8000000 in
theorem sbd_no (w : World) (a1 a2 a3 a4 b1 b2 b3 b4 u : Int) (hok : okT a1 a2 a3 a4 b1 b2 b3 b4 = false) :
    Calls Try.prog 34 #[.agg #[.int .i64 a1, .int .i64 a2, .int .i64 a3, .int .i64 a4], .agg #[.int .i64 b1, .int .i64 b2, .int .i64 b3, .int .i64 b4], .int .i64 u] w fun e w' => e = .returned (.tuple #[.int .i64 (bdR a1 a2 a3 a4 b1 b2 b3 b4 u), .int .i64 (bdC a1 a2 a3 a4 b1 b2 b3 b4 u)]) ∧ Below w.heap.size w w' := by
  have HT : Hid (bdR a1 a2 a3 a4 b1 b2 b3 b4 u = 0 ∧ bdC a1 a2 a3 a4 b1 b2 b3 b4 u = 1) := Lib.hid (have e : bdC a1 a2 a3 a4 b1 b2 b3 b4 u = 1 := (by unfold bdC; rw [hok]; rfl); ⟨by unfold bdR; rw [e]; rfl, e⟩)
  obtain ⟨P, hP⟩ : ∃ q, tkB a1 a2 a3 a4 = q := ⟨_, rfl⟩
  obtain ⟨R, hR⟩ : ∃ q, tkB b1 b2 b3 b4 = q := ⟨_, rfl⟩
  unfold okT at hok
  rw [hP, hR] at hok
  have HO := Lib.hid hok
  have KA : Hid (∀ W : World, Calls Try.prog 62 #[.agg #[.int .i64 a1, .int .i64 a2, .int .i64 a3, .int .i64 a4]] W fun e w' => e = .returned (.bool P) ∧ Below W.heap.size W w') := Lib.hid (fun W => by have := ltk_any W a1 a2 a3 a4; rwa [hP] at this)
  have KB : Hid (∀ W : World, Calls Try.prog 62 #[.agg #[.int .i64 b1, .int .i64 b2, .int .i64 b3, .int .i64 b4]] W fun e w' => e = .returned (.bool R) ∧ Below W.heap.size W w') := Lib.hid (fun W => by have := ltk_any W b1 b2 b3 b4; rwa [hR] at this)
  clear hP hR hok
  go_enter Try.func34, Try.ntmps34
  go_wp2_with fail
  generalize hW : World.alloc _ _ = W
  have bA : Bk W (w.heap.size) #[.int .i64 a1, .int .i64 a2, .int .i64 a3, .int .i64 a4] 44 := by rw [← hW]; repeat (first | (refine Bk.new' ?_; (simp; done)) | refine Bk.alloc ?_ _)
  have bB : Bk W (w.heap.size + 1) #[.int .i64 b1, .int .i64 b2, .int .i64 b3, .int .i64 b4] 44 := by rw [← hW]; repeat (first | (refine Bk.new' ?_; (simp; done)) | refine Bk.alloc ?_ _)
  have HB : Hid (Below w.heap.size w W) := Lib.hid (by rw [← hW]; exact (by repeat (first | exact Below.refl _ _ | (refine Below.alloc ?_ (by simp <;> omega) _) | (refine Below.setCell ?_ (by simp <;> omega) _) | (refine Below.drew ?_) | (refine bel_drewN ?_ _))))
  clear hW
  refine (KA.out _).mono ?_
  rintro e w1 ⟨rfl, hb⟩
  replace bA := bA.on hb
  replace bB := bB.on hb
  replace HB := Lib.hid (bel_end HB.out hb)
  clear hb
  cases hP : P
  case false =>
    subst hP
    have bA_0 := bA.cell 0 rfl
    have bA_1 := bA.cell 1 rfl
    have bA_2 := bA.cell 2 rfl
    have bA_3 := bA.cell 3 rfl
    have bA_l := bA.lt
    have bB_0 := bB.cell 0 rfl
    have bB_1 := bB.cell 1 rfl
    have bB_2 := bB.cell 2 rfl
    have bB_3 := bB.cell 3 rfl
    have bB_l := bB.lt
    go_wp2
    go_ret2
    exact ⟨ret2e HT.out.1 HT.out.2, HB.out⟩
  case true =>
    subst hP
    obtain rfl : R = false := HO.out
    have bA_0 := bA.cell 0 rfl
    have bA_1 := bA.cell 1 rfl
    have bA_2 := bA.cell 2 rfl
    have bA_3 := bA.cell 3 rfl
    have bA_l := bA.lt
    have bB_0 := bB.cell 0 rfl
    have bB_1 := bB.cell 1 rfl
    have bB_2 := bB.cell 2 rfl
    have bB_3 := bB.cell 3 rfl
    have bB_l := bB.lt
    go_wp2_with fail
    refine (KB.out _).mono ?_
    rintro e w2 ⟨rfl, hb⟩
    replace bA := bA.on hb
    replace bB := bB.on hb
    replace HB := Lib.hid (bel_end HB.out hb)
    clear hb
    clear bA_0 bA_1 bA_2 bA_3 bA_l bB_0 bB_1 bB_2 bB_3 bB_l
    have bA_0 := bA.cell 0 rfl
    have bA_1 := bA.cell 1 rfl
    have bA_2 := bA.cell 2 rfl
    have bA_3 := bA.cell 3 rfl
    have bA_l := bA.lt
    have bB_0 := bB.cell 0 rfl
    have bB_1 := bB.cell 1 rfl
    have bB_2 := bB.cell 2 rfl
    have bB_3 := bB.cell 3 rfl
    have bB_l := bB.lt
    go_wp2
    go_ret2
    exact ⟨ret2e HT.out.1 HT.out.2, HB.out⟩

set_option maxRecDepth 100000 in
set_option maxHeartbeats 8000000 in
theorem ibd_ok (w : World) (a1 a2 a3 a4 b1 b2 b3 b4 u : Int) (hok : okT a1 a2 a3 a4 b1 b2 b3 b4 = true) :
    Calls Try.prog 35 #[.agg #[.int .i64 a1, .int .i64 a2, .int .i64 a3, .int .i64 a4], .agg #[.int .i64 b1, .int .i64 b2, .int .i64 b3, .int .i64 b4], .int .i64 u] w fun e w' => e = .returned (.tuple #[.int .i64 (bdR a1 a2 a3 a4 b1 b2 b3 b4 u), .int .i64 (bdC a1 a2 a3 a4 b1 b2 b3 b4 u)]) ∧ Below w.heap.size w w' := by
  have hs := (okT_t hok).2.2
  have KS : Hid (∀ W : World, Calls Try.prog 68 #[.agg #[.int .i64 a1, .int .i64 a2, .int .i64 a3, .int .i64 a4], .agg #[.int .i64 b1, .int .i64 b2, .int .i64 b3, .int .i64 b4]] W fun e w' => e = .returned (.tuple #[.agg #[.int .i64 (b1 - a1), .int .i64 (b2 - a2), .int .i64 (b3 - a3), .int .i64 (b4 - a4)], .int .i64 0]) ∧ Below W.heap.size W w') := Lib.hid (fun W => ise_ok W a1 a2 a3 a4 b1 b2 b3 b4 hok)
  obtain ⟨U, hU⟩ : ∃ q, inB u 0 1000 = q := ⟨_, rfl⟩
  have HT0 : bdC a1 a2 a3 a4 b1 b2 b3 b4 u = (if U then 0 else 2) ∧ bdR a1 a2 a3 a4 b1 b2 b3 b4 u = (if U then bdV (b1 - a1) (b2 - a2) (b3 - a3) (b4 - a4) u else 0) := by
    have e : bdC a1 a2 a3 a4 b1 b2 b3 b4 u = (if U then 0 else 2) := by unfold bdC; rw [hok, hU]; rfl
    refine ⟨e, ?_⟩
    unfold bdR
    rw [e]
    cases U <;> rfl
  obtain ⟨X, hX⟩ : ∃ u, b1 - a1 = u := ⟨_, rfl⟩
  obtain ⟨Y, hY⟩ : ∃ u, b2 - a2 = u := ⟨_, rfl⟩
  obtain ⟨M, hM⟩ : ∃ u, b3 - a3 = u := ⟨_, rfl⟩
  obtain ⟨N, hN⟩ : ∃ u, b4 - a4 = u := ⟨_, rfl⟩
  rw [hX, hY, hM, hN] at KS hs
  rw [hX, hY, hM, hN] at HT0
  clear hX hY hM hN hok
  have KU : Hid (∀ W : World, Calls Try.prog 65 #[.int .i64 u] W fun e w' => e = .returned (.bool U) ∧ Below W.heap.size W w') := Lib.hid (fun W => by have := iti_any W u; rwa [hU] at this)
  have KM : Hid (U = true → ∀ (W : World) (g : Nat), Bk W g #[.int .i64 X, .int .i64 Y, .int .i64 M, .int .i64 N] 44 → Calls Try.prog 66 #[.pointer (some ⟨g, 0, none⟩), .int .i64 u] W fun e w' => e = .returned (.tuple #[]) ∧ Bk w' g #[.int .i64 (X + u * M), .int .i64 (Y + u * N), .int .i64 M, .int .i64 N] 44 ∧ W.grownBy w' (some g)) := Lib.hid (fun e2 W g hb => by have l := inB_t (hU.trans e2); have hx := hs.x; have hy := hs.y; have hm := hs.s; have hn := hs.t; exact mov_any W g X Y M N u (by omega) (by omega) (by omega) (by omega) (by omega) (by omega) (by omega) (by omega) (by omega) (by omega) hb)
  have KT : Hid (U = true → ∀ W : World, Calls Try.prog 53 #[.agg #[.int .i64 (X + u * M), .int .i64 (Y + u * N)], .agg #[.int .i64 M, .int .i64 N]] W fun e w' => e = .returned (.int .i64 (bdV X Y M N u)) ∧ Below W.heap.size W w') := Lib.hid (fun e2 W => by have l := inB_t (hU.trans e2); have hx := hs.x; have hy := hs.y; have hm := hs.s; have hn := hs.t; have m1 := mul_abs (a := u) (n := M) (A := 1000) (N := 2000) (by omega) (by omega); have m2 := mul_abs (a := u) (n := N) (A := 1000) (N := 2000) (by omega) (by omega); have p1 := prd (A := 2200000) (B := 2000) (a := X + u * M) (b := N) (by omega) (by omega) (by omega) (by omega) (by omega); have p2 := prd (A := 2200000) (B := 2000) (a := Y + u * N) (b := M) (by omega) (by omega) (by omega) (by omega) (by omega); have := itt_any W (X + u * M) (Y + u * N) M N p1.1 p1.2 p2.1 p2.2; rwa [bdV_turn] at this)
  obtain ⟨Z, hZ⟩ : ∃ q, bdV X Y M N u = q := ⟨_, rfl⟩
  rw [hZ] at KT HT0
  obtain ⟨X2, hX2⟩ : ∃ q, X + u * M = q := ⟨_, rfl⟩
  obtain ⟨Y2, hY2⟩ : ∃ q, Y + u * N = q := ⟨_, rfl⟩
  rw [hX2, hY2] at KT KM
  replace HT0 := Lib.hid HT0
  clear hU hs hZ hX2 hY2
  go_enter Try.func35, Try.ntmps35
  go_wp2_with fail
  generalize hW : World.alloc _ _ = W
  have bA : Bk W (w.heap.size) #[.int .i64 a1, .int .i64 a2, .int .i64 a3, .int .i64 a4] 44 := by rw [← hW]; repeat (first | (refine Bk.new' ?_; (simp; done)) | refine Bk.alloc ?_ _)
  have bB : Bk W (w.heap.size + 1) #[.int .i64 b1, .int .i64 b2, .int .i64 b3, .int .i64 b4] 44 := by rw [← hW]; repeat (first | (refine Bk.new' ?_; (simp; done)) | refine Bk.alloc ?_ _)
  have HB : Hid (Below w.heap.size w W) := Lib.hid (by rw [← hW]; exact (by repeat (first | exact Below.refl _ _ | (refine Below.alloc ?_ (by simp <;> omega) _) | (refine Below.setCell ?_ (by simp <;> omega) _) | (refine Below.drew ?_) | (refine bel_drewN ?_ _))))
  clear hW
  refine (KS.out _).mono ?_
  rintro e w1 ⟨rfl, hb⟩
  replace bA := bA.on hb
  replace bB := bB.on hb
  replace HB := Lib.hid (bel_end HB.out hb)
  clear hb
  have bA_0 := bA.cell 0 rfl
  have bA_1 := bA.cell 1 rfl
  have bA_2 := bA.cell 2 rfl
  have bA_3 := bA.cell 3 rfl
  have bA_l := bA.lt
  have bB_0 := bB.cell 0 rfl
  have bB_1 := bB.cell 1 rfl
  have bB_2 := bB.cell 2 rfl
  have bB_3 := bB.cell 3 rfl
  have bB_l := bB.lt
  go_upto_region 2 with fail
  clear bA_0 bA_1 bA_2 bA_3 bA_l bB_0 bB_1 bB_2 bB_3 bB_l
  generalize hW : World.alloc _ _ = WN
  obtain ⟨gN, hg⟩ : ∃ g, g = w1.heap.size := ⟨_, rfl⟩
  have bN : Bk WN gN #[.int .i64 X, .int .i64 Y, .int .i64 M, .int .i64 N] 44 := by rw [← hW]; exact Bk.new' hg
  have hb : Below w1.heap.size w1 WN := by rw [← hW]; exact (Below.refl _ _).alloc (Nat.le_refl _) _
  have ne_bA : gN ≠ w.heap.size := by have := bA.lt; omega
  have ne_bB : gN ≠ w.heap.size + 1 := by have := bB.lt; omega
  have leN : w.heap.size ≤ gN := by rw [hg]; exact HB.out.size
  try rw [← hg]
  clear hW hg
  replace bA := bA.on hb
  replace bB := bB.on hb
  replace HB := Lib.hid (bel_end HB.out hb)
  clear hb
  clear bA bB ne_bA ne_bB
  have bN_0 := bN.cell 0 rfl
  have bN_1 := bN.cell 1 rfl
  have bN_2 := bN.cell 2 rfl
  have bN_3 := bN.cell 3 rfl
  have bN_l := bN.lt
  go_wp2_with fail
  refine (KU.out _).mono ?_
  rintro e w2 ⟨rfl, hb⟩
  replace bN := bN.on hb
  replace HB := Lib.hid (bel_end HB.out hb)
  clear hb
  clear bN_0 bN_1 bN_2 bN_3 bN_l
  cases hP : U
  case false =>
    subst hP
    have HT : Hid (bdR a1 a2 a3 a4 b1 b2 b3 b4 u = 0 ∧ bdC a1 a2 a3 a4 b1 b2 b3 b4 u = 2) := Lib.hid ⟨HT0.out.2, HT0.out.1⟩
    have bN_0 := bN.cell 0 rfl
    have bN_1 := bN.cell 1 rfl
    have bN_2 := bN.cell 2 rfl
    have bN_3 := bN.cell 3 rfl
    have bN_l := bN.lt
    go_wp2
    go_ret2
    exact ⟨ret2e HT.out.1 HT.out.2, HB.out⟩
  case true =>
    subst hP
    have HT : Hid (bdR a1 a2 a3 a4 b1 b2 b3 b4 u = Z ∧ bdC a1 a2 a3 a4 b1 b2 b3 b4 u = 0) := Lib.hid ⟨HT0.out.2, HT0.out.1⟩
    have bN_0 := bN.cell 0 rfl
    have bN_1 := bN.cell 1 rfl
    have bN_2 := bN.cell 2 rfl
    have bN_3 := bN.cell 3 rfl
    have bN_l := bN.lt
    go_wp2_with fail
    refine (KM.out (by trivial) _ _ bN).mono ?_
    rintro e w9 ⟨rfl, bA2, hgr⟩
    clear bN_0 bN_1 bN_2 bN_3 bN_l
    have hb : Below w.heap.size w2 w9 := below_of_grown hgr leN HB.out.size
    replace HB := Lib.hid (HB.out.trans hb)
    replace bN := bA2
    clear bA2 hgr hb
    have bN_0 := bN.cell 0 rfl
    have bN_1 := bN.cell 1 rfl
    have bN_2 := bN.cell 2 rfl
    have bN_3 := bN.cell 3 rfl
    have bN_l := bN.lt
    go_wp2_with fail
    refine (KT.out (by trivial) _).mono ?_
    rintro e w3 ⟨rfl, hb⟩
    replace bN := bN.on hb
    replace HB := Lib.hid (bel_end HB.out hb)
    clear hb
    clear bN_0 bN_1 bN_2 bN_3 bN_l
    have bN_0 := bN.cell 0 rfl
    have bN_1 := bN.cell 1 rfl
    have bN_2 := bN.cell 2 rfl
    have bN_3 := bN.cell 3 rfl
    have bN_l := bN.lt
    go_wp2
    go_ret2
    exact ⟨ret2e HT.out.1 HT.out.2, HB.out⟩

set_option maxRecDepth 100000 in
set_option maxHeartbeats 8000000 in
theorem sbd_ok (w : World) (a1 a2 a3 a4 b1 b2 b3 b4 u : Int) (hok : okT a1 a2 a3 a4 b1 b2 b3 b4 = true) :
    Calls Try.prog 34 #[.agg #[.int .i64 a1, .int .i64 a2, .int .i64 a3, .int .i64 a4], .agg #[.int .i64 b1, .int .i64 b2, .int .i64 b3, .int .i64 b4], .int .i64 u] w fun e w' => e = .returned (.tuple #[.int .i64 (bdR a1 a2 a3 a4 b1 b2 b3 b4 u), .int .i64 (bdC a1 a2 a3 a4 b1 b2 b3 b4 u)]) ∧ Below w.heap.size w w' := by
  obtain ⟨ha, hb, hs⟩ := okT_t hok
  have ba := tkB_t ha
  have bb := tkB_t hb
  have KA : Hid (∀ W : World, Calls Try.prog 62 #[.agg #[.int .i64 a1, .int .i64 a2, .int .i64 a3, .int .i64 a4]] W fun e w' => e = .returned (.bool true) ∧ Below W.heap.size W w') := Lib.hid (fun W => by have := ltk_any W a1 a2 a3 a4; rwa [ha] at this)
  have KB : Hid (∀ W : World, Calls Try.prog 62 #[.agg #[.int .i64 b1, .int .i64 b2, .int .i64 b3, .int .i64 b4]] W fun e w' => e = .returned (.bool true) ∧ Below W.heap.size W w') := Lib.hid (fun W => by have := ltk_any W b1 b2 b3 b4; rwa [hb] at this)
  have KL1 : Hid (∀ W : World, Calls Try.prog 51 #[.agg #[.int .i64 b1, .int .i64 b2], .agg #[.int .i64 a1, .int .i64 a2]] W fun e w' => e = .returned (.agg #[.int .i64 (b1 - a1), .int .i64 (b2 - a2)]) ∧ Below W.heap.size W w') := Lib.hid (fun W => lle_any W b1 b2 a1 a2 (by omega) (by omega) (by omega) (by omega) (by omega) (by omega) (by omega) (by omega))
  have KL2 : Hid (∀ W : World, Calls Try.prog 51 #[.agg #[.int .i64 b3, .int .i64 b4], .agg #[.int .i64 a3, .int .i64 a4]] W fun e w' => e = .returned (.agg #[.int .i64 (b3 - a3), .int .i64 (b4 - a4)]) ∧ Below W.heap.size W w') := Lib.hid (fun W => lle_any W b3 b4 a3 a4 (by omega) (by omega) (by omega) (by omega) (by omega) (by omega) (by omega) (by omega))
  obtain ⟨U, hU⟩ : ∃ q, inB u 0 1000 = q := ⟨_, rfl⟩
  have HT0 : bdC a1 a2 a3 a4 b1 b2 b3 b4 u = (if U then 0 else 2) ∧ bdR a1 a2 a3 a4 b1 b2 b3 b4 u = (if U then bdV (b1 - a1) (b2 - a2) (b3 - a3) (b4 - a4) u else 0) := by
    have e : bdC a1 a2 a3 a4 b1 b2 b3 b4 u = (if U then 0 else 2) := by unfold bdC; rw [hok, hU]; rfl
    refine ⟨e, ?_⟩
    unfold bdR
    rw [e]
    cases U <;> rfl
  obtain ⟨X, hX⟩ : ∃ u, b1 - a1 = u := ⟨_, rfl⟩
  obtain ⟨Y, hY⟩ : ∃ u, b2 - a2 = u := ⟨_, rfl⟩
  obtain ⟨M, hM⟩ : ∃ u, b3 - a3 = u := ⟨_, rfl⟩
  obtain ⟨N, hN⟩ : ∃ u, b4 - a4 = u := ⟨_, rfl⟩
  rw [hX, hY] at KL1
  rw [hM, hN] at KL2
  rw [hX, hY, hM, hN] at hs
  rw [hX, hY, hM, hN] at HT0
  clear hX hY hM hN hok ha hb ba bb
  have KU : Hid (∀ W : World, Calls Try.prog 63 #[.int .i64 u, .int .i64 0, .int .i64 1000] W fun e w' => e = .returned (.bool U) ∧ W = w') := Lib.hid (fun W => by have := lin_any u 0 1000 W; rwa [hU] at this)
  obtain ⟨X2, hX2⟩ : ∃ q, X + u * M = q := ⟨_, rfl⟩
  obtain ⟨Y2, hY2⟩ : ∃ q, Y + u * N = q := ⟨_, rfl⟩
  have HW1 : Hid (U = true → IntKind.wrap .i64 (u * M) = u * M ∧ IntKind.wrap .i64 (u * N) = u * N ∧ IntKind.wrap .i64 (X + u * M) = X2 ∧ IntKind.wrap .i64 (Y + u * N) = Y2) := Lib.hid (fun e2 => by have l := inB_t (hU.trans e2); have hx := hs.x; have hy := hs.y; have hm := hs.s; have hn := hs.t; have m1 := mul_abs (a := u) (n := M) (A := 1000) (N := 2000) (by omega) (by omega); have m2 := mul_abs (a := u) (n := N) (A := 1000) (N := 2000) (by omega) (by omega); rw [← hX2, ← hY2]; exact ⟨IntWalk.i64_in _ (by omega), IntWalk.i64_in _ (by omega), IntWalk.i64_in _ (by omega), IntWalk.i64_in _ (by omega)⟩)
  have KT : Hid (U = true → ∀ W : World, Calls Try.prog 50 #[.agg #[.int .i64 M, .int .i64 N], .agg #[.int .i64 X2, .int .i64 Y2]] W fun e w' => e = .returned (.int .i64 (crs M N X2 Y2)) ∧ Below W.heap.size W w') := Lib.hid (fun e2 W => by have l := inB_t (hU.trans e2); have hx := hs.x; have hy := hs.y; have hm := hs.s; have hn := hs.t; have m1 := mul_abs (a := u) (n := M) (A := 1000) (N := 2000) (by omega) (by omega); have m2 := mul_abs (a := u) (n := N) (A := 1000) (N := 2000) (by omega) (by omega); have p1 := prd (A := 2000) (B := 2200000) (a := M) (b := Y2) (by omega) (by omega) (by omega) (by omega) (by omega); have p2 := prd (A := 2000) (B := 2200000) (a := N) (b := X2) (by omega) (by omega) (by omega) (by omega) (by omega); exact lcr_any W M N X2 Y2 p1.1 p1.2 p2.1 p2.2)
  have eZ : bdV X Y M N u = sg1 (crs M N X2 Y2) := by unfold bdV; rw [hX2, hY2]
  rw [eZ] at HT0
  obtain ⟨C, hC⟩ : ∃ q, crs M N X2 Y2 = q := ⟨_, rfl⟩
  rw [hC] at KT HT0
  have KG : Hid (∀ W : World, Calls Try.prog 49 #[.int .i64 C] W fun e w' => e = .returned (.int .i64 (sg1 C)) ∧ Below W.heap.size W w') := Lib.hid (fun W => lsg_any W C)
  obtain ⟨Z, hZ⟩ : ∃ q, sg1 C = q := ⟨_, rfl⟩
  rw [hZ] at KG HT0
  replace HT0 := Lib.hid HT0
  clear hU hs eZ hC hZ hX2 hY2
  go_enter Try.func34, Try.ntmps34
  go_wp2_with fail
  generalize hW : World.alloc _ _ = W
  have bA : Bk W (w.heap.size) #[.int .i64 a1, .int .i64 a2, .int .i64 a3, .int .i64 a4] 44 := by rw [← hW]; repeat (first | (refine Bk.new' ?_; (simp; done)) | refine Bk.alloc ?_ _)
  have bB : Bk W (w.heap.size + 1) #[.int .i64 b1, .int .i64 b2, .int .i64 b3, .int .i64 b4] 44 := by rw [← hW]; repeat (first | (refine Bk.new' ?_; (simp; done)) | refine Bk.alloc ?_ _)
  have HB : Hid (Below w.heap.size w W) := Lib.hid (by rw [← hW]; exact (by repeat (first | exact Below.refl _ _ | (refine Below.alloc ?_ (by simp <;> omega) _) | (refine Below.setCell ?_ (by simp <;> omega) _) | (refine Below.drew ?_) | (refine bel_drewN ?_ _))))
  clear hW
  refine (KA.out _).mono ?_
  rintro e w1 ⟨rfl, hb⟩
  replace bA := bA.on hb
  replace bB := bB.on hb
  replace HB := Lib.hid (bel_end HB.out hb)
  clear hb
  have bA_0 := bA.cell 0 rfl
  have bA_1 := bA.cell 1 rfl
  have bA_2 := bA.cell 2 rfl
  have bA_3 := bA.cell 3 rfl
  have bA_l := bA.lt
  have bB_0 := bB.cell 0 rfl
  have bB_1 := bB.cell 1 rfl
  have bB_2 := bB.cell 2 rfl
  have bB_3 := bB.cell 3 rfl
  have bB_l := bB.lt
  go_wp2_with fail
  refine (KB.out _).mono ?_
  rintro e w2 ⟨rfl, hb⟩
  replace bA := bA.on hb
  replace bB := bB.on hb
  replace HB := Lib.hid (bel_end HB.out hb)
  clear hb
  clear bA_0 bA_1 bA_2 bA_3 bA_l bB_0 bB_1 bB_2 bB_3 bB_l
  have bA_0 := bA.cell 0 rfl
  have bA_1 := bA.cell 1 rfl
  have bA_2 := bA.cell 2 rfl
  have bA_3 := bA.cell 3 rfl
  have bA_l := bA.lt
  have bB_0 := bB.cell 0 rfl
  have bB_1 := bB.cell 1 rfl
  have bB_2 := bB.cell 2 rfl
  have bB_3 := bB.cell 3 rfl
  have bB_l := bB.lt
  go_wp2_with fail
  refine (KU.out _).mono ?_
  rintro e wq ⟨rfl, hwq⟩
  subst hwq
  clear bA_0 bA_1 bA_2 bA_3 bA_l bB_0 bB_1 bB_2 bB_3 bB_l
  cases hP : U
  case false =>
    subst hP
    have HT : Hid (bdR a1 a2 a3 a4 b1 b2 b3 b4 u = 0 ∧ bdC a1 a2 a3 a4 b1 b2 b3 b4 u = 2) := Lib.hid ⟨HT0.out.2, HT0.out.1⟩
    have bA_0 := bA.cell 0 rfl
    have bA_1 := bA.cell 1 rfl
    have bA_2 := bA.cell 2 rfl
    have bA_3 := bA.cell 3 rfl
    have bA_l := bA.lt
    have bB_0 := bB.cell 0 rfl
    have bB_1 := bB.cell 1 rfl
    have bB_2 := bB.cell 2 rfl
    have bB_3 := bB.cell 3 rfl
    have bB_l := bB.lt
    go_wp2
    go_ret2
    exact ⟨ret2e HT.out.1 HT.out.2, HB.out⟩
  case true =>
    subst hP
    have HT : Hid (bdR a1 a2 a3 a4 b1 b2 b3 b4 u = Z ∧ bdC a1 a2 a3 a4 b1 b2 b3 b4 u = 0) := Lib.hid ⟨HT0.out.2, HT0.out.1⟩
    have bA_0 := bA.cell 0 rfl
    have bA_1 := bA.cell 1 rfl
    have bA_2 := bA.cell 2 rfl
    have bA_3 := bA.cell 3 rfl
    have bA_l := bA.lt
    have bB_0 := bB.cell 0 rfl
    have bB_1 := bB.cell 1 rfl
    have bB_2 := bB.cell 2 rfl
    have bB_3 := bB.cell 3 rfl
    have bB_l := bB.lt
    go_upto_region 5 with fail
    clear bA_0 bA_1 bA_2 bA_3 bA_l bB_0 bB_1 bB_2 bB_3 bB_l
    go_cut [8, 9] (fun s6 s7 wx => TwoP wx s6 s7 X Y M N w2.heap.size ∧ Below w2.heap.size w2 wx)
    case first =>
      have HW : Hid (Below w2.heap.size w2 w2) := Lib.hid (Below.refl _ _)
      obtain ⟨S, hSd⟩ : ∃ S : World → Prop, ∀ w', S w' ↔ (w'.cell? ⟨w.heap.size, 0, none⟩ = some (.int .i64 a1) ∧ w'.cell? ⟨w.heap.size, 1, none⟩ = some (.int .i64 a2) ∧ w'.cell? ⟨w.heap.size, 2, none⟩ = some (.int .i64 a3) ∧ w'.cell? ⟨w.heap.size, 3, none⟩ = some (.int .i64 a4) ∧ w'.cell? ⟨w.heap.size + 1, 0, none⟩ = some (.int .i64 b1) ∧ w'.cell? ⟨w.heap.size + 1, 1, none⟩ = some (.int .i64 b2) ∧ w'.cell? ⟨w.heap.size + 1, 2, none⟩ = some (.int .i64 b3) ∧ w'.cell? ⟨w.heap.size + 1, 3, none⟩ = some (.int .i64 b4)) := ⟨_, fun _ => Iff.rfl⟩
      have HSp : Hid (∀ w' : World, Bk w' (w.heap.size) #[.int .i64 a1, .int .i64 a2, .int .i64 a3, .int .i64 a4] 44 → Bk w' (w.heap.size + 1) #[.int .i64 b1, .int .i64 b2, .int .i64 b3, .int .i64 b4] 44 → S w') := Lib.hid (fun w' bA bB => (hSd w').2 ⟨bA.cell 0 rfl, bA.cell 1 rfl, bA.cell 2 rfl, bA.cell 3 rfl, bB.cell 0 rfl, bB.cell 1 rfl, bB.cell 2 rfl, bB.cell 3 rfl⟩)
      have HSd := Lib.hid hSd
      clear hSd
      refine wp_region_held_drew (S := S) (by kernel_rfl) ?_ (fun hH => ?_)
      · exact (HSp.out _ bA bB : S (World.drew w2))
      clear hH
      generalize hX : World.drew w2 = V0
      replace bA : Bk V0 (w.heap.size) #[.int .i64 a1, .int .i64 a2, .int .i64 a3, .int .i64 a4] 44 := by rw [← hX]; exact bA
      replace bB : Bk V0 (w.heap.size + 1) #[.int .i64 b1, .int .i64 b2, .int .i64 b3, .int .i64 b4] 44 := by rw [← hX]; exact bB
      have hb : Below w2.heap.size w2 V0 := by rw [← hX]; exact (Below.refl _ _).drew
      clear hX
      replace HW := Lib.hid (bel_end HW.out hb)
      clear hb
      have hS := HSp.out _ bA bB
      refine wpAnyH_take (i := 0) (oi := { dst := some 21, op := Go.Op.fieldAddr 44 (Go.Operand.tmp 4) 0, type := 0, pos := "l12_bearings.go:136", after := #[], guard := none }) (v := ?_) rfl (by kernel_rfl) (by kernel_rfl) (by kernel_rfl) (fun _ _ _ h => h) (Or.inl ⟨by rfl, ?_⟩) hS ?_
      rotate_left
      · (intro w hSw; have hSw := (HSd.out w).1 hSw; go_split_ands; go_simp) <;> with_reducible rfl
      clear hS
      try simp only [Act.put, List.setIfInBounds_toArray, List.set_cons_zero, List.set_cons_succ]
      have hS := HSp.out _ bA bB
      refine wpAnyH_take (i := 1) (oi := { dst := some 22, op := Go.Op.load 25 (Go.Operand.tmp 21), type := 25, pos := "l12_bearings.go:136", after := #[{ on := 0, ground := Go.Ground.data }], guard := none }) (v := ?_) rfl (by kernel_rfl) (by kernel_rfl) (by kernel_rfl) (fun _ _ _ h => h) (Or.inl ⟨by rfl, ?_⟩) hS ?_
      rotate_left
      · (intro w hSw; have hSw := (HSd.out w).1 hSw; go_split_ands; go_simp) <;> with_reducible rfl
      clear hS
      try simp only [Act.put, List.setIfInBounds_toArray, List.set_cons_zero, List.set_cons_succ]
      have hS := HSp.out _ bA bB
      refine wpAnyH_take (i := 2) (oi := { dst := some 23, op := Go.Op.fieldAddr 44 (Go.Operand.tmp 3) 0, type := 0, pos := "l12_bearings.go:136", after := #[], guard := none }) (v := ?_) rfl (by kernel_rfl) (by kernel_rfl) (by kernel_rfl) (fun _ _ _ h => h) (Or.inl ⟨by rfl, ?_⟩) hS ?_
      rotate_left
      · (intro w hSw; have hSw := (HSd.out w).1 hSw; go_split_ands; go_simp) <;> with_reducible rfl
      clear hS
      try simp only [Act.put, List.setIfInBounds_toArray, List.set_cons_zero, List.set_cons_succ]
      have hS := HSp.out _ bA bB
      refine wpAnyH_take (i := 3) (oi := { dst := some 24, op := Go.Op.load 25 (Go.Operand.tmp 23), type := 25, pos := "l12_bearings.go:136", after := #[{ on := 2, ground := Go.Ground.data }], guard := none }) (v := ?_) rfl (by kernel_rfl) (by kernel_rfl) (by kernel_rfl) (fun _ _ _ h => h) (Or.inl ⟨by rfl, ?_⟩) hS ?_
      rotate_left
      · (intro w hSw; have hSw := (HSd.out w).1 hSw; go_split_ands; go_simp) <;> with_reducible rfl
      clear hS
      try simp only [Act.put, List.setIfInBounds_toArray, List.set_cons_zero, List.set_cons_succ]
      have hS := HSp.out _ bA bB
      refine wpAnyH_take (i := 5) (oi := { dst := some 26, op := Go.Op.fieldAddr 44 (Go.Operand.tmp 4) 1, type := 0, pos := "l12_bearings.go:136", after := #[], guard := none }) (v := ?_) rfl (by kernel_rfl) (by kernel_rfl) (by kernel_rfl) (fun _ _ _ h => h) (Or.inl ⟨by rfl, ?_⟩) hS ?_
      rotate_left
      · (intro w hSw; have hSw := (HSd.out w).1 hSw; go_split_ands; go_simp) <;> with_reducible rfl
      clear hS
      try simp only [Act.put, List.setIfInBounds_toArray, List.set_cons_zero, List.set_cons_succ]
      have hS := HSp.out _ bA bB
      refine wpAnyH_take (i := 6) (oi := { dst := some 27, op := Go.Op.load 25 (Go.Operand.tmp 26), type := 25, pos := "l12_bearings.go:136", after := #[{ on := 5, ground := Go.Ground.data }], guard := none }) (v := ?_) rfl (by kernel_rfl) (by kernel_rfl) (by kernel_rfl) (fun _ _ _ h => h) (Or.inl ⟨by rfl, ?_⟩) hS ?_
      rotate_left
      · (intro w hSw; have hSw := (HSd.out w).1 hSw; go_split_ands; go_simp) <;> with_reducible rfl
      clear hS
      try simp only [Act.put, List.setIfInBounds_toArray, List.set_cons_zero, List.set_cons_succ]
      have hS := HSp.out _ bA bB
      refine wpAnyH_take (i := 7) (oi := { dst := some 28, op := Go.Op.fieldAddr 44 (Go.Operand.tmp 3) 1, type := 0, pos := "l12_bearings.go:136", after := #[], guard := none }) (v := ?_) rfl (by kernel_rfl) (by kernel_rfl) (by kernel_rfl) (fun _ _ _ h => h) (Or.inl ⟨by rfl, ?_⟩) hS ?_
      rotate_left
      · (intro w hSw; have hSw := (HSd.out w).1 hSw; go_split_ands; go_simp) <;> with_reducible rfl
      clear hS
      try simp only [Act.put, List.setIfInBounds_toArray, List.set_cons_zero, List.set_cons_succ]
      have hS := HSp.out _ bA bB
      refine wpAnyH_take (i := 8) (oi := { dst := some 29, op := Go.Op.load 25 (Go.Operand.tmp 28), type := 25, pos := "l12_bearings.go:136", after := #[{ on := 7, ground := Go.Ground.data }], guard := none }) (v := ?_) rfl (by kernel_rfl) (by kernel_rfl) (by kernel_rfl) (fun _ _ _ h => h) (Or.inl ⟨by rfl, ?_⟩) hS ?_
      rotate_left
      · (intro w hSw; have hSw := (HSd.out w).1 hSw; go_split_ands; go_simp) <;> with_reducible rfl
      clear hS
      try simp only [Act.put, List.setIfInBounds_toArray, List.set_cons_zero, List.set_cons_succ]
      refine wpAnyH_ready (rs := [4, 10, 11]) (by decide +kernel) (by simp) ?_
      refine AllReadyH.cons (o := { dst := some 25, op := Go.Op.call { callee := Go.Callee.value (Go.Operand.func 51), args := #[Go.Operand.tmp 22, Go.Operand.tmp 24], argTypes := #[25, 25] }, type := 25, pos := "l12_bearings.go:136", after := #[{ on := 1, ground := Go.Ground.data }, { on := 3, ground := Go.Ground.data }], guard := none }) rfl (fun Kn hK => ?_) ?_
      first | go_at_call 51 | (go_simp; go_at_call 51)
      (with_reducible refine Calls.mono (KL1.out  _) ?_)
      rintro e V1 ⟨rfl, hb⟩
      try dsimp only
      try simp only [Act.put, List.setIfInBounds_toArray, List.set_cons_zero, List.set_cons_succ]
      replace bA := bA.on hb
      replace bB := bB.on hb
      replace HW := Lib.hid (bel_end HW.out hb)
      clear hb
      refine hK.out _ _ (HSp.out _ bA bB) (fun _ => ?_)
      clear hK Kn
      rotate_left
      refine AllReadyH.cons (o := { dst := some 8, op := Go.Op.alloc 25, type := 0, pos := "l12_bearings.go:136", after := #[], guard := none }) rfl (fun Kn hK => ?_) ?_
      go_simp
      generalize hX : World.alloc V0 _ = V1
      obtain ⟨g10, hg⟩ : ∃ g, g = V0.heap.size := ⟨_, rfl⟩
      have bn10 : Bk V1 g10 #[.int .i64 0, .int .i64 0] 25 := by rw [← hX]; exact Bk.new' hg
      have le10 : w2.heap.size ≤ g10 := by rw [hg]; exact HW.out.size
      have nebA_10 : w.heap.size ≠ g10 := by have := bA.lt; omega
      have nebB_10 : w.heap.size + 1 ≠ g10 := by have := bB.lt; omega
      try rw [← hg]
      have hb : Below V0.heap.size V0 V1 := by rw [← hX]; exact (Below.refl _ _).alloc (Nat.le_refl _) _
      clear hX hg
      replace bA := bA.on hb
      replace bB := bB.on hb
      replace HW := Lib.hid (bel_end HW.out hb)
      clear hb
      refine hK.out _ _ (HSp.out _ bA bB) (fun _ => ?_)
      clear hK Kn
      rotate_left
      refine AllReadyH.cons (o := { dst := some 9, op := Go.Op.alloc 25, type := 0, pos := "l12_bearings.go:136", after := #[], guard := none }) rfl (fun Kn hK => ?_) AllReadyH.nil
      go_simp
      generalize hX : World.alloc V0 _ = V1
      obtain ⟨g11, hg⟩ : ∃ g, g = V0.heap.size := ⟨_, rfl⟩
      have bn11 : Bk V1 g11 #[.int .i64 0, .int .i64 0] 25 := by rw [← hX]; exact Bk.new' hg
      have le11 : w2.heap.size ≤ g11 := by rw [hg]; exact HW.out.size
      have nebA_11 : w.heap.size ≠ g11 := by have := bA.lt; omega
      have nebB_11 : w.heap.size + 1 ≠ g11 := by have := bB.lt; omega
      try rw [← hg]
      have hb : Below V0.heap.size V0 V1 := by rw [← hX]; exact (Below.refl _ _).alloc (Nat.le_refl _) _
      clear hX hg
      replace bA := bA.on hb
      replace bB := bB.on hb
      replace HW := Lib.hid (bel_end HW.out hb)
      clear hb
      refine hK.out _ _ (HSp.out _ bA bB) (fun _ => ?_)
      clear hK Kn
      all_goals
        first
        | (refine wpAnyH_ready (rs := [9, 10, 11]) (by decide +kernel) (by simp) ?_
           refine AllReadyH.cons (o := { dst := some 30, op := Go.Op.call { callee := Go.Callee.value (Go.Operand.func 51), args := #[Go.Operand.tmp 27, Go.Operand.tmp 29], argTypes := #[25, 25] }, type := 25, pos := "l12_bearings.go:136", after := #[{ on := 6, ground := Go.Ground.data }, { on := 8, ground := Go.Ground.data }, { on := 4, ground := Go.Ground.chain }], guard := none }) rfl (fun Kn hK => ?_) ?_
           first | go_at_call 51 | (go_simp; go_at_call 51)
           (with_reducible refine Calls.mono (KL2.out  _) ?_)
           rintro e V2 ⟨rfl, hb⟩
           try dsimp only
           try simp only [Act.put, List.setIfInBounds_toArray, List.set_cons_zero, List.set_cons_succ]
           replace bA := bA.on hb
           replace bB := bB.on hb
           replace HW := Lib.hid (bel_end HW.out hb)
           clear hb
           refine hK.out _ _ (HSp.out _ bA bB) (fun _ => ?_)
           clear hK Kn
           rotate_left
           refine AllReadyH.cons (o := { dst := some 8, op := Go.Op.alloc 25, type := 0, pos := "l12_bearings.go:136", after := #[], guard := none }) rfl (fun Kn hK => ?_) ?_
           go_simp
           generalize hX : World.alloc V1 _ = V2
           obtain ⟨g10, hg⟩ : ∃ g, g = V1.heap.size := ⟨_, rfl⟩
           have bn10 : Bk V2 g10 #[.int .i64 0, .int .i64 0] 25 := by rw [← hX]; exact Bk.new' hg
           have le10 : w2.heap.size ≤ g10 := by rw [hg]; exact HW.out.size
           have nebA_10 : w.heap.size ≠ g10 := by have := bA.lt; omega
           have nebB_10 : w.heap.size + 1 ≠ g10 := by have := bB.lt; omega
           try rw [← hg]
           have hb : Below V1.heap.size V1 V2 := by rw [← hX]; exact (Below.refl _ _).alloc (Nat.le_refl _) _
           clear hX hg
           replace bA := bA.on hb
           replace bB := bB.on hb
           replace HW := Lib.hid (bel_end HW.out hb)
           clear hb
           refine hK.out _ _ (HSp.out _ bA bB) (fun _ => ?_)
           clear hK Kn
           rotate_left
           refine AllReadyH.cons (o := { dst := some 9, op := Go.Op.alloc 25, type := 0, pos := "l12_bearings.go:136", after := #[], guard := none }) rfl (fun Kn hK => ?_) AllReadyH.nil
           go_simp
           generalize hX : World.alloc V1 _ = V2
           obtain ⟨g11, hg⟩ : ∃ g, g = V1.heap.size := ⟨_, rfl⟩
           have bn11 : Bk V2 g11 #[.int .i64 0, .int .i64 0] 25 := by rw [← hX]; exact Bk.new' hg
           have le11 : w2.heap.size ≤ g11 := by rw [hg]; exact HW.out.size
           have nebA_11 : w.heap.size ≠ g11 := by have := bA.lt; omega
           have nebB_11 : w.heap.size + 1 ≠ g11 := by have := bB.lt; omega
           try rw [← hg]
           have hb : Below V1.heap.size V1 V2 := by rw [← hX]; exact (Below.refl _ _).alloc (Nat.le_refl _) _
           clear hX hg
           replace bA := bA.on hb
           replace bB := bB.on hb
           replace HW := Lib.hid (bel_end HW.out hb)
           clear hb
           refine hK.out _ _ (HSp.out _ bA bB) (fun _ => ?_)
           clear hK Kn)
        | (refine wpAnyH_ready (rs := [4, 11]) (by decide +kernel) (by simp) ?_
           refine AllReadyH.cons (o := { dst := some 25, op := Go.Op.call { callee := Go.Callee.value (Go.Operand.func 51), args := #[Go.Operand.tmp 22, Go.Operand.tmp 24], argTypes := #[25, 25] }, type := 25, pos := "l12_bearings.go:136", after := #[{ on := 1, ground := Go.Ground.data }, { on := 3, ground := Go.Ground.data }], guard := none }) rfl (fun Kn hK => ?_) ?_
           first | go_at_call 51 | (go_simp; go_at_call 51)
           (with_reducible refine Calls.mono (KL1.out  _) ?_)
           rintro e V2 ⟨rfl, hb⟩
           try dsimp only
           try simp only [Act.put, List.setIfInBounds_toArray, List.set_cons_zero, List.set_cons_succ]
           replace bA := bA.on hb
           replace bB := bB.on hb
           replace bn10 := bn10.on hb
           replace HW := Lib.hid (bel_end HW.out hb)
           clear hb
           refine hK.out _ _ (HSp.out _ bA bB) (fun _ => ?_)
           clear hK Kn
           rotate_left
           refine AllReadyH.cons (o := { dst := some 9, op := Go.Op.alloc 25, type := 0, pos := "l12_bearings.go:136", after := #[], guard := none }) rfl (fun Kn hK => ?_) AllReadyH.nil
           go_simp
           generalize hX : World.alloc V1 _ = V2
           obtain ⟨g11, hg⟩ : ∃ g, g = V1.heap.size := ⟨_, rfl⟩
           have bn11 : Bk V2 g11 #[.int .i64 0, .int .i64 0] 25 := by rw [← hX]; exact Bk.new' hg
           have le11 : w2.heap.size ≤ g11 := by rw [hg]; exact HW.out.size
           have nebA_11 : w.heap.size ≠ g11 := by have := bA.lt; omega
           have nebB_11 : w.heap.size + 1 ≠ g11 := by have := bB.lt; omega
           have ne10_11 : g10 ≠ g11 := by have := bn10.lt; omega
           try rw [← hg]
           have hb : Below V1.heap.size V1 V2 := by rw [← hX]; exact (Below.refl _ _).alloc (Nat.le_refl _) _
           clear hX hg
           replace bA := bA.on hb
           replace bB := bB.on hb
           replace bn10 := bn10.on hb
           replace HW := Lib.hid (bel_end HW.out hb)
           clear hb
           refine hK.out _ _ (HSp.out _ bA bB) (fun _ => ?_)
           clear hK Kn)
        | (refine wpAnyH_ready (rs := [4, 10]) (by decide +kernel) (by simp) ?_
           refine AllReadyH.cons (o := { dst := some 25, op := Go.Op.call { callee := Go.Callee.value (Go.Operand.func 51), args := #[Go.Operand.tmp 22, Go.Operand.tmp 24], argTypes := #[25, 25] }, type := 25, pos := "l12_bearings.go:136", after := #[{ on := 1, ground := Go.Ground.data }, { on := 3, ground := Go.Ground.data }], guard := none }) rfl (fun Kn hK => ?_) ?_
           first | go_at_call 51 | (go_simp; go_at_call 51)
           (with_reducible refine Calls.mono (KL1.out  _) ?_)
           rintro e V2 ⟨rfl, hb⟩
           try dsimp only
           try simp only [Act.put, List.setIfInBounds_toArray, List.set_cons_zero, List.set_cons_succ]
           replace bA := bA.on hb
           replace bB := bB.on hb
           replace bn11 := bn11.on hb
           replace HW := Lib.hid (bel_end HW.out hb)
           clear hb
           refine hK.out _ _ (HSp.out _ bA bB) (fun _ => ?_)
           clear hK Kn
           rotate_left
           refine AllReadyH.cons (o := { dst := some 8, op := Go.Op.alloc 25, type := 0, pos := "l12_bearings.go:136", after := #[], guard := none }) rfl (fun Kn hK => ?_) AllReadyH.nil
           go_simp
           generalize hX : World.alloc V1 _ = V2
           obtain ⟨g10, hg⟩ : ∃ g, g = V1.heap.size := ⟨_, rfl⟩
           have bn10 : Bk V2 g10 #[.int .i64 0, .int .i64 0] 25 := by rw [← hX]; exact Bk.new' hg
           have le10 : w2.heap.size ≤ g10 := by rw [hg]; exact HW.out.size
           have nebA_10 : w.heap.size ≠ g10 := by have := bA.lt; omega
           have nebB_10 : w.heap.size + 1 ≠ g10 := by have := bB.lt; omega
           have ne10_11 : g10 ≠ g11 := by have := bn11.lt; omega
           try rw [← hg]
           have hb : Below V1.heap.size V1 V2 := by rw [← hX]; exact (Below.refl _ _).alloc (Nat.le_refl _) _
           clear hX hg
           replace bA := bA.on hb
           replace bB := bB.on hb
           replace bn11 := bn11.on hb
           replace HW := Lib.hid (bel_end HW.out hb)
           clear hb
           refine hK.out _ _ (HSp.out _ bA bB) (fun _ => ?_)
           clear hK Kn)
      all_goals
        first
        | (refine wpAnyH_ready (rs := [10, 11]) (by decide +kernel) (by simp) ?_
           refine AllReadyH.cons (o := { dst := some 8, op := Go.Op.alloc 25, type := 0, pos := "l12_bearings.go:136", after := #[], guard := none }) rfl (fun Kn hK => ?_) ?_
           go_simp
           generalize hX : World.alloc V2 _ = V3
           obtain ⟨g10, hg⟩ : ∃ g, g = V2.heap.size := ⟨_, rfl⟩
           have bn10 : Bk V3 g10 #[.int .i64 0, .int .i64 0] 25 := by rw [← hX]; exact Bk.new' hg
           have le10 : w2.heap.size ≤ g10 := by rw [hg]; exact HW.out.size
           have nebA_10 : w.heap.size ≠ g10 := by have := bA.lt; omega
           have nebB_10 : w.heap.size + 1 ≠ g10 := by have := bB.lt; omega
           try rw [← hg]
           have hb : Below V2.heap.size V2 V3 := by rw [← hX]; exact (Below.refl _ _).alloc (Nat.le_refl _) _
           clear hX hg
           replace bA := bA.on hb
           replace bB := bB.on hb
           replace HW := Lib.hid (bel_end HW.out hb)
           clear hb
           refine hK.out _ _ (HSp.out _ bA bB) (fun _ => ?_)
           clear hK Kn
           rotate_left
           refine AllReadyH.cons (o := { dst := some 9, op := Go.Op.alloc 25, type := 0, pos := "l12_bearings.go:136", after := #[], guard := none }) rfl (fun Kn hK => ?_) AllReadyH.nil
           go_simp
           generalize hX : World.alloc V2 _ = V3
           obtain ⟨g11, hg⟩ : ∃ g, g = V2.heap.size := ⟨_, rfl⟩
           have bn11 : Bk V3 g11 #[.int .i64 0, .int .i64 0] 25 := by rw [← hX]; exact Bk.new' hg
           have le11 : w2.heap.size ≤ g11 := by rw [hg]; exact HW.out.size
           have nebA_11 : w.heap.size ≠ g11 := by have := bA.lt; omega
           have nebB_11 : w.heap.size + 1 ≠ g11 := by have := bB.lt; omega
           try rw [← hg]
           have hb : Below V2.heap.size V2 V3 := by rw [← hX]; exact (Below.refl _ _).alloc (Nat.le_refl _) _
           clear hX hg
           replace bA := bA.on hb
           replace bB := bB.on hb
           replace HW := Lib.hid (bel_end HW.out hb)
           clear hb
           refine hK.out _ _ (HSp.out _ bA bB) (fun _ => ?_)
           clear hK Kn)
        | (refine wpAnyH_ready (rs := [9, 11]) (by decide +kernel) (by simp) ?_
           refine AllReadyH.cons (o := { dst := some 30, op := Go.Op.call { callee := Go.Callee.value (Go.Operand.func 51), args := #[Go.Operand.tmp 27, Go.Operand.tmp 29], argTypes := #[25, 25] }, type := 25, pos := "l12_bearings.go:136", after := #[{ on := 6, ground := Go.Ground.data }, { on := 8, ground := Go.Ground.data }, { on := 4, ground := Go.Ground.chain }], guard := none }) rfl (fun Kn hK => ?_) ?_
           first | go_at_call 51 | (go_simp; go_at_call 51)
           (with_reducible refine Calls.mono (KL2.out  _) ?_)
           rintro e V3 ⟨rfl, hb⟩
           try dsimp only
           try simp only [Act.put, List.setIfInBounds_toArray, List.set_cons_zero, List.set_cons_succ]
           replace bA := bA.on hb
           replace bB := bB.on hb
           replace bn10 := bn10.on hb
           replace HW := Lib.hid (bel_end HW.out hb)
           clear hb
           refine hK.out _ _ (HSp.out _ bA bB) (fun _ => ?_)
           clear hK Kn
           rotate_left
           refine AllReadyH.cons (o := { dst := some 9, op := Go.Op.alloc 25, type := 0, pos := "l12_bearings.go:136", after := #[], guard := none }) rfl (fun Kn hK => ?_) AllReadyH.nil
           go_simp
           generalize hX : World.alloc V2 _ = V3
           obtain ⟨g11, hg⟩ : ∃ g, g = V2.heap.size := ⟨_, rfl⟩
           have bn11 : Bk V3 g11 #[.int .i64 0, .int .i64 0] 25 := by rw [← hX]; exact Bk.new' hg
           have le11 : w2.heap.size ≤ g11 := by rw [hg]; exact HW.out.size
           have nebA_11 : w.heap.size ≠ g11 := by have := bA.lt; omega
           have nebB_11 : w.heap.size + 1 ≠ g11 := by have := bB.lt; omega
           have ne10_11 : g10 ≠ g11 := by have := bn10.lt; omega
           try rw [← hg]
           have hb : Below V2.heap.size V2 V3 := by rw [← hX]; exact (Below.refl _ _).alloc (Nat.le_refl _) _
           clear hX hg
           replace bA := bA.on hb
           replace bB := bB.on hb
           replace bn10 := bn10.on hb
           replace HW := Lib.hid (bel_end HW.out hb)
           clear hb
           refine hK.out _ _ (HSp.out _ bA bB) (fun _ => ?_)
           clear hK Kn)
        | (refine wpAnyH_ready (rs := [9, 10]) (by decide +kernel) (by simp) ?_
           refine AllReadyH.cons (o := { dst := some 30, op := Go.Op.call { callee := Go.Callee.value (Go.Operand.func 51), args := #[Go.Operand.tmp 27, Go.Operand.tmp 29], argTypes := #[25, 25] }, type := 25, pos := "l12_bearings.go:136", after := #[{ on := 6, ground := Go.Ground.data }, { on := 8, ground := Go.Ground.data }, { on := 4, ground := Go.Ground.chain }], guard := none }) rfl (fun Kn hK => ?_) ?_
           first | go_at_call 51 | (go_simp; go_at_call 51)
           (with_reducible refine Calls.mono (KL2.out  _) ?_)
           rintro e V3 ⟨rfl, hb⟩
           try dsimp only
           try simp only [Act.put, List.setIfInBounds_toArray, List.set_cons_zero, List.set_cons_succ]
           replace bA := bA.on hb
           replace bB := bB.on hb
           replace bn11 := bn11.on hb
           replace HW := Lib.hid (bel_end HW.out hb)
           clear hb
           refine hK.out _ _ (HSp.out _ bA bB) (fun _ => ?_)
           clear hK Kn
           rotate_left
           refine AllReadyH.cons (o := { dst := some 8, op := Go.Op.alloc 25, type := 0, pos := "l12_bearings.go:136", after := #[], guard := none }) rfl (fun Kn hK => ?_) AllReadyH.nil
           go_simp
           generalize hX : World.alloc V2 _ = V3
           obtain ⟨g10, hg⟩ : ∃ g, g = V2.heap.size := ⟨_, rfl⟩
           have bn10 : Bk V3 g10 #[.int .i64 0, .int .i64 0] 25 := by rw [← hX]; exact Bk.new' hg
           have le10 : w2.heap.size ≤ g10 := by rw [hg]; exact HW.out.size
           have nebA_10 : w.heap.size ≠ g10 := by have := bA.lt; omega
           have nebB_10 : w.heap.size + 1 ≠ g10 := by have := bB.lt; omega
           have ne10_11 : g10 ≠ g11 := by have := bn11.lt; omega
           try rw [← hg]
           have hb : Below V2.heap.size V2 V3 := by rw [← hX]; exact (Below.refl _ _).alloc (Nat.le_refl _) _
           clear hX hg
           replace bA := bA.on hb
           replace bB := bB.on hb
           replace bn11 := bn11.on hb
           replace HW := Lib.hid (bel_end HW.out hb)
           clear hb
           refine hK.out _ _ (HSp.out _ bA bB) (fun _ => ?_)
           clear hK Kn)
        | (refine wpAnyH_ready (rs := [4]) (by decide +kernel) (by simp) ?_
           refine AllReadyH.cons (o := { dst := some 25, op := Go.Op.call { callee := Go.Callee.value (Go.Operand.func 51), args := #[Go.Operand.tmp 22, Go.Operand.tmp 24], argTypes := #[25, 25] }, type := 25, pos := "l12_bearings.go:136", after := #[{ on := 1, ground := Go.Ground.data }, { on := 3, ground := Go.Ground.data }], guard := none }) rfl (fun Kn hK => ?_) AllReadyH.nil
           first | go_at_call 51 | (go_simp; go_at_call 51)
           (with_reducible refine Calls.mono (KL1.out  _) ?_)
           rintro e V3 ⟨rfl, hb⟩
           try dsimp only
           try simp only [Act.put, List.setIfInBounds_toArray, List.set_cons_zero, List.set_cons_succ]
           replace bA := bA.on hb
           replace bB := bB.on hb
           replace bn10 := bn10.on hb
           replace bn11 := bn11.on hb
           replace HW := Lib.hid (bel_end HW.out hb)
           clear hb
           refine hK.out _ _ (HSp.out _ bA bB) (fun _ => ?_)
           clear hK Kn)
      all_goals
        first
        | (refine wpAnyH_ready (rs := [11]) (by decide +kernel) (by simp) ?_
           refine AllReadyH.cons (o := { dst := some 9, op := Go.Op.alloc 25, type := 0, pos := "l12_bearings.go:136", after := #[], guard := none }) rfl (fun Kn hK => ?_) AllReadyH.nil
           go_simp
           generalize hX : World.alloc V3 _ = V4
           obtain ⟨g11, hg⟩ : ∃ g, g = V3.heap.size := ⟨_, rfl⟩
           have bn11 : Bk V4 g11 #[.int .i64 0, .int .i64 0] 25 := by rw [← hX]; exact Bk.new' hg
           have le11 : w2.heap.size ≤ g11 := by rw [hg]; exact HW.out.size
           have nebA_11 : w.heap.size ≠ g11 := by have := bA.lt; omega
           have nebB_11 : w.heap.size + 1 ≠ g11 := by have := bB.lt; omega
           have ne10_11 : g10 ≠ g11 := by have := bn10.lt; omega
           try rw [← hg]
           have hb : Below V3.heap.size V3 V4 := by rw [← hX]; exact (Below.refl _ _).alloc (Nat.le_refl _) _
           clear hX hg
           replace bA := bA.on hb
           replace bB := bB.on hb
           replace bn10 := bn10.on hb
           replace HW := Lib.hid (bel_end HW.out hb)
           clear hb
           refine hK.out _ _ (HSp.out _ bA bB) (fun _ => ?_)
           clear hK Kn)
        | (refine wpAnyH_ready (rs := [10]) (by decide +kernel) (by simp) ?_
           refine AllReadyH.cons (o := { dst := some 8, op := Go.Op.alloc 25, type := 0, pos := "l12_bearings.go:136", after := #[], guard := none }) rfl (fun Kn hK => ?_) AllReadyH.nil
           go_simp
           generalize hX : World.alloc V3 _ = V4
           obtain ⟨g10, hg⟩ : ∃ g, g = V3.heap.size := ⟨_, rfl⟩
           have bn10 : Bk V4 g10 #[.int .i64 0, .int .i64 0] 25 := by rw [← hX]; exact Bk.new' hg
           have le10 : w2.heap.size ≤ g10 := by rw [hg]; exact HW.out.size
           have nebA_10 : w.heap.size ≠ g10 := by have := bA.lt; omega
           have nebB_10 : w.heap.size + 1 ≠ g10 := by have := bB.lt; omega
           have ne10_11 : g10 ≠ g11 := by have := bn11.lt; omega
           try rw [← hg]
           have hb : Below V3.heap.size V3 V4 := by rw [← hX]; exact (Below.refl _ _).alloc (Nat.le_refl _) _
           clear hX hg
           replace bA := bA.on hb
           replace bB := bB.on hb
           replace bn11 := bn11.on hb
           replace HW := Lib.hid (bel_end HW.out hb)
           clear hb
           refine hK.out _ _ (HSp.out _ bA bB) (fun _ => ?_)
           clear hK Kn)
        | (refine wpAnyH_ready (rs := [9]) (by decide +kernel) (by simp) ?_
           refine AllReadyH.cons (o := { dst := some 30, op := Go.Op.call { callee := Go.Callee.value (Go.Operand.func 51), args := #[Go.Operand.tmp 27, Go.Operand.tmp 29], argTypes := #[25, 25] }, type := 25, pos := "l12_bearings.go:136", after := #[{ on := 6, ground := Go.Ground.data }, { on := 8, ground := Go.Ground.data }, { on := 4, ground := Go.Ground.chain }], guard := none }) rfl (fun Kn hK => ?_) AllReadyH.nil
           first | go_at_call 51 | (go_simp; go_at_call 51)
           (with_reducible refine Calls.mono (KL2.out  _) ?_)
           rintro e V4 ⟨rfl, hb⟩
           try dsimp only
           try simp only [Act.put, List.setIfInBounds_toArray, List.set_cons_zero, List.set_cons_succ]
           replace bA := bA.on hb
           replace bB := bB.on hb
           replace bn10 := bn10.on hb
           replace bn11 := bn11.on hb
           replace HW := Lib.hid (bel_end HW.out hb)
           clear hb
           refine hK.out _ _ (HSp.out _ bA bB) (fun _ => ?_)
           clear hK Kn)
      all_goals
        refine wpAnyH_ready (rs := [12]) (by decide +kernel) (by simp) ?_
        refine AllReadyH.cons (o := { dst := none, op := Go.Op.store 25 (Go.Operand.tmp 8) (Go.Operand.tmp 25), type := 0, pos := "l12_bearings.go:136", after := #[{ on := 10, ground := Go.Ground.data }, { on := 4, ground := Go.Ground.data }, { on := 9, ground := Go.Ground.chain }, { on := 0, ground := Go.Ground.phase }, { on := 1, ground := Go.Ground.phase }, { on := 2, ground := Go.Ground.phase }, { on := 3, ground := Go.Ground.phase }, { on := 4, ground := Go.Ground.phase }, { on := 5, ground := Go.Ground.textOnly Go.Departure.lateStores }, { on := 6, ground := Go.Ground.textOnly Go.Departure.lateStores }, { on := 7, ground := Go.Ground.textOnly Go.Departure.lateStores }, { on := 8, ground := Go.Ground.textOnly Go.Departure.lateStores }, { on := 9, ground := Go.Ground.textOnly Go.Departure.lateStoresUnsure }, { on := 10, ground := Go.Ground.phase }, { on := 11, ground := Go.Ground.phase }], guard := none }) rfl (fun Kn hK => ?_) AllReadyH.nil
        have bn10_0 := bn10.cell 0 rfl
        have bn10_1 := bn10.cell 1 rfl
        have bn10_f0 := bn10.frozen 0
        have bn10_f1 := bn10.frozen 1
        have bn10_l := bn10.lt
        go_simp
        clear bn10_0 bn10_f0 bn10_1 bn10_f1 bn10_l
        generalize hX : World.setCell _ _ _ = V5
        have hb : Below w2.heap.size w2 V5 := by rw [← hX]; exact ((HW.out.setCell (p := ⟨g10, 0, none⟩) le10 _).setCell (p := ⟨g10, 1, none⟩) le10 _)
        replace bA : Bk V5 (w.heap.size) #[.int .i64 a1, .int .i64 a2, .int .i64 a3, .int .i64 a4] 44 := by rw [← hX]; exact (Bk.other (Bk.other bA nebA_10 0 _) nebA_10 1 _)
        replace bB : Bk V5 (w.heap.size + 1) #[.int .i64 b1, .int .i64 b2, .int .i64 b3, .int .i64 b4] 44 := by rw [← hX]; exact (Bk.other (Bk.other bB nebB_10 0 _) nebB_10 1 _)
        replace bn11 : Bk V5 (g11) #[.int .i64 0, .int .i64 0] 25 := by rw [← hX]; exact (Bk.other (Bk.other bn11 (Ne.symm ne10_11) 0 _) (Ne.symm ne10_11) 1 _)
        replace bn10 : Bk V5 (g10) #[.int .i64 X, .int .i64 Y] 25 := by rw [← hX]; exact (Bk.set (Bk.set bn10 0 _ rfl) 1 _ rfl)
        clear hX
        replace HW := Lib.hid hb
        clear hb
        refine hK.out _ _ (HSp.out _ bA bB) (fun _ => ?_)
        clear hK Kn
      all_goals
        refine wpAnyH_ready (rs := [13]) (by decide +kernel) (by simp) ?_
        refine AllReadyH.cons (o := { dst := none, op := Go.Op.store 25 (Go.Operand.tmp 9) (Go.Operand.tmp 30), type := 0, pos := "l12_bearings.go:136", after := #[{ on := 11, ground := Go.Ground.data }, { on := 9, ground := Go.Ground.data }, { on := 12, ground := Go.Ground.chain }, { on := 0, ground := Go.Ground.phase }, { on := 1, ground := Go.Ground.phase }, { on := 2, ground := Go.Ground.phase }, { on := 3, ground := Go.Ground.phase }, { on := 4, ground := Go.Ground.phase }, { on := 5, ground := Go.Ground.phase }, { on := 6, ground := Go.Ground.phase }, { on := 7, ground := Go.Ground.phase }, { on := 8, ground := Go.Ground.phase }, { on := 9, ground := Go.Ground.phase }, { on := 10, ground := Go.Ground.phase }, { on := 11, ground := Go.Ground.phase }, { on := 12, ground := Go.Ground.phase }], guard := none }) rfl (fun Kn hK => ?_) AllReadyH.nil
        have bn11_0 := bn11.cell 0 rfl
        have bn11_1 := bn11.cell 1 rfl
        have bn11_f0 := bn11.frozen 0
        have bn11_f1 := bn11.frozen 1
        have bn11_l := bn11.lt
        go_simp
        clear bn11_0 bn11_f0 bn11_1 bn11_f1 bn11_l
        generalize hX : World.setCell _ _ _ = V6
        have hb : Below w2.heap.size w2 V6 := by rw [← hX]; exact ((HW.out.setCell (p := ⟨g11, 0, none⟩) le11 _).setCell (p := ⟨g11, 1, none⟩) le11 _)
        replace bA : Bk V6 (w.heap.size) #[.int .i64 a1, .int .i64 a2, .int .i64 a3, .int .i64 a4] 44 := by rw [← hX]; exact (Bk.other (Bk.other bA nebA_11 0 _) nebA_11 1 _)
        replace bB : Bk V6 (w.heap.size + 1) #[.int .i64 b1, .int .i64 b2, .int .i64 b3, .int .i64 b4] 44 := by rw [← hX]; exact (Bk.other (Bk.other bB nebB_11 0 _) nebB_11 1 _)
        replace bn10 : Bk V6 (g10) #[.int .i64 X, .int .i64 Y] 25 := by rw [← hX]; exact (Bk.other (Bk.other bn10 ne10_11 0 _) ne10_11 1 _)
        replace bn11 : Bk V6 (g11) #[.int .i64 M, .int .i64 N] 25 := by rw [← hX]; exact (Bk.set (Bk.set bn11 0 _ rfl) 1 _ rfl)
        clear hX
        replace HW := Lib.hid hb
        clear hb
        refine hK.out _ _ (HSp.out _ bA bB) (fun _ => ?_)
        clear hK Kn
      all_goals
        refine wpAnyH_done (by kernel_rfl) ?_ _
        go_wp2_with fail
        go_meet
        exact ⟨⟨_, _, rfl, rfl, bn10, bn11, le10, le11⟩, HW.out⟩
    case rest =>
      obtain ⟨hx, hb⟩ := hcut
      replace bA := bA.on hb
      replace bB := bB.on hb
      replace HB := Lib.hid (bel_end HB.out hb)
      clear hb
      obtain ⟨g1, g2, rfl, rfl, b_1, b_2, hg1, hg2⟩ := hx
      clear bA bB
      obtain ⟨e1, e2, e3, e4⟩ := HW1.out (by trivial)
      clear HW1
      have b_1_0 := b_1.cell 0 rfl
      have b_1_1 := b_1.cell 1 rfl
      have b_1_l := b_1.lt
      have b_2_0 := b_2.cell 0 rfl
      have b_2_1 := b_2.cell 1 rfl
      have b_2_l := b_2.lt
      go_wp2_with fail
      clear e1 e2 e3 e4
      refine (KT.out (by trivial) _).mono ?_
      rintro e w3 ⟨rfl, hb⟩
      replace b_1 := b_1.on hb
      replace b_2 := b_2.on hb
      replace HB := Lib.hid (bel_end HB.out hb)
      clear hb
      clear b_1_0 b_1_1 b_1_l b_2_0 b_2_1 b_2_l
      have b_1_0 := b_1.cell 0 rfl
      have b_1_1 := b_1.cell 1 rfl
      have b_1_l := b_1.lt
      have b_2_0 := b_2.cell 0 rfl
      have b_2_1 := b_2.cell 1 rfl
      have b_2_l := b_2.lt
      go_wp2_with fail
      refine (KG.out _).mono ?_
      rintro e w4 ⟨rfl, hb⟩
      replace b_1 := b_1.on hb
      replace b_2 := b_2.on hb
      replace HB := Lib.hid (bel_end HB.out hb)
      clear hb
      clear b_1_0 b_1_1 b_1_l b_2_0 b_2_1 b_2_l
      have b_1_0 := b_1.cell 0 rfl
      have b_1_1 := b_1.cell 1 rfl
      have b_1_l := b_1.lt
      have b_2_0 := b_2.cell 0 rfl
      have b_2_1 := b_2.cell 1 rfl
      have b_2_l := b_2.lt
      go_wp2
      go_ret2
      exact ⟨ret2e HT.out.1 HT.out.2, HB.out⟩

theorem ibd_any (w : World) (a1 a2 a3 a4 b1 b2 b3 b4 u : Int) : Calls Try.prog 35 #[.agg #[.int .i64 a1, .int .i64 a2, .int .i64 a3, .int .i64 a4], .agg #[.int .i64 b1, .int .i64 b2, .int .i64 b3, .int .i64 b4], .int .i64 u] w fun e w' => e = .returned (.tuple #[.int .i64 (bdR a1 a2 a3 a4 b1 b2 b3 b4 u), .int .i64 (bdC a1 a2 a3 a4 b1 b2 b3 b4 u)]) ∧ Below w.heap.size w w' := by
  cases hok : okT a1 a2 a3 a4 b1 b2 b3 b4
  · exact ibd_no w a1 a2 a3 a4 b1 b2 b3 b4 u hok
  · exact ibd_ok w a1 a2 a3 a4 b1 b2 b3 b4 u hok

theorem sbd_any (w : World) (a1 a2 a3 a4 b1 b2 b3 b4 u : Int) : Calls Try.prog 34 #[.agg #[.int .i64 a1, .int .i64 a2, .int .i64 a3, .int .i64 a4], .agg #[.int .i64 b1, .int .i64 b2, .int .i64 b3, .int .i64 b4], .int .i64 u] w fun e w' => e = .returned (.tuple #[.int .i64 (bdR a1 a2 a3 a4 b1 b2 b3 b4 u), .int .i64 (bdC a1 a2 a3 a4 b1 b2 b3 b4 u)]) ∧ Below w.heap.size w w' := by
  cases hok : okT a1 a2 a3 a4 b1 b2 b3 b4
  · exact sbd_no w a1 a2 a3 a4 b1 b2 b3 b4 u hok
  · exact sbd_ok w a1 a2 a3 a4 b1 b2 b3 b4 u hok
end Go.Proofs.Ytkjpjhklnaehbaa
