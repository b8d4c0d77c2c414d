/- Contracts of MoveOn, of costs and gates of a motion and a contact, on both sides. -/
import Derived.Test.YtdkiikmmlfdlcaaGtA
namespace Go.Proofs.Ytdkiikmmlfdlcaa
open Go.ChangeShapes Go.WideShapes Go.ChangeAt Go.RowKit Go.Shelf Num
set_option linter.unusedVariables false
set_option linter.unusedSimpArgs false

set_option maxRecDepth 100000 in
set_option maxHeartbeats 2000000 in
theorem lmv_any (w : World) (x y u v s n : Int) (h1 : mtB x y u v s = true) (h2 : inB n 0 100 = true) :
    Calls Try.prog 65 #[.agg #[.int .i64 x, .int .i64 y, .int .i64 u, .int .i64 v, .int .i64 s], .int .i64 n] w fun e w' => e = .returned (.agg #[.int .i64 (x + n * u), .int .i64 (y + n * v), .int .i64 u, .int .i64 v, .int .i64 (mvS s n)]) ∧ Below w.heap.size w w' := by
  obtain ⟨-, ⟨u0, u1⟩, ⟨v0, v1⟩, s0, s1⟩ := mtB_t h1
  obtain ⟨x0, x1, y0, y1⟩ := ctB_t (mtB_t h1).1
  obtain ⟨n0, n1⟩ := inB_t h2
  have m1 := mul_bd (n := n) (u := u) (N := 100) (U := 1000) (by omega) (by omega)
  have m2 := mul_bd (n := n) (u := v) (N := 100) (U := 1000) (by omega) (by omega)
  obtain ⟨P, hP⟩ : ∃ q, n * u = q := ⟨_, rfl⟩
  obtain ⟨R, hR⟩ : ∃ q, n * v = q := ⟨_, rfl⟩
  rw [hP] at m1
  rw [hR] at m2
  have e1 : IntKind.wrap .i64 (n * u) = P := by rw [hP]; exact IntWalk.i64_in _ (by omega)
  have e2 : IntKind.wrap .i64 (n * v) = R := by rw [hR]; exact IntWalk.i64_in _ (by omega)
  have e3 : IntKind.wrap .i64 (x + P) = x + P := IntWalk.i64_in _ (by omega)
  have e4 : IntKind.wrap .i64 (y + R) = y + R := IntWalk.i64_in _ (by omega)
  have e5 : IntKind.wrap .i64 (n * 50) = n * 50 := IntWalk.i64_in _ (by omega)
  have e6 : IntKind.wrap .i64 (s + n * 50) = s + n * 50 := IntWalk.i64_in _ (by omega)
  rw [hP, hR]
  clear hP hR m1 m2 u0 u1 v0 v1 s0 s1 x0 x1 y0 y1 n0 n1 h1 h2
  by_cases hs : 10000 ≤ s + n * 50
  case pos =>
    have HM : Hid (mvS s n = 10000) := Lib.hid (by unfold mvS; split <;> omega)
    go_enter Try.func65, Try.ntmps65
    go_wp2
    exact bodyPost_ret (v := .agg #[.int .i64 (x + P), .int .i64 (y + R), .int .i64 u, .int .i64 v, .int .i64 10000]) (by simp [results, Try.results65, go_sem]) rfl ⟨by rw [HM.out], (by repeat (first | exact Below.refl _ _ | (refine Below.alloc ?_ (by simp <;> omega) _) | (refine Below.setCell ?_ (by simp <;> omega) _) | (refine Below.drew ?_) | (refine bel_drewN ?_ _)))⟩
  case neg =>
    have HM : Hid (mvS s n = s + n * 50) := Lib.hid (by unfold mvS; split <;> omega)
    go_enter Try.func65, Try.ntmps65
    go_wp2
    exact bodyPost_ret (v := .agg #[.int .i64 (x + P), .int .i64 (y + R), .int .i64 u, .int .i64 v, .int .i64 (s + n * 50)]) (by simp [results, Try.results65, go_sem]) rfl ⟨by rw [HM.out], (by repeat (first | exact Below.refl _ _ | (refine Below.alloc ?_ (by simp <;> omega) _) | (refine Below.setCell ?_ (by simp <;> omega) _) | (refine Below.drew ?_) | (refine bel_drewN ?_ _)))⟩

theorem ret_mv {T : (Int × Int × Int × Int × Int) × Int} {a b c d k r : Int} (h : T = ((a, b, c, d, k), r)) : Ending.returned (.tuple #[.agg #[.int .i64 a, .int .i64 b, .int .i64 c, .int .i64 d, .int .i64 k], .int .i64 r]) = .returned (.tuple #[.agg #[.int .i64 T.1.1, .int .i64 T.1.2.1, .int .i64 T.1.2.2.1, .int .i64 T.1.2.2.2.1, .int .i64 T.1.2.2.2.2], .int .i64 T.2]) := by subst h; rfl

set_option maxRecDepth 100000 in
set_option maxHeartbeats 8000000 in
theorem smv14_any (w : World) (x y u v s n : Int) :
    Calls Try.prog 17 #[.agg #[.int .i64 x, .int .i64 y, .int .i64 u, .int .i64 v, .int .i64 s], .int .i64 n] w fun e w' => e = .returned (.tuple #[.agg #[.int .i64 (mvT x y u v s n).1.1, .int .i64 (mvT x y u v s n).1.2.1, .int .i64 (mvT x y u v s n).1.2.2.1, .int .i64 (mvT x y u v s n).1.2.2.2.1, .int .i64 (mvT x y u v s n).1.2.2.2.2], .int .i64 (mvT x y u v s n).2]) ∧ Below w.heap.size w w' := by
  cases h1 : mtB x y u v s
  case false =>
    have K1 : Hid (∀ W : World, Calls Try.prog 20 #[.agg #[.int .i64 x, .int .i64 y, .int .i64 u, .int .i64 v, .int .i64 s]] W fun e w' => e = .returned (.bool false) ∧ Below W.heap.size W w') := Lib.hid (fun W => by have := smo_any W x y u v s; rwa [h1] at this)
    have HT : Hid (mvT x y u v s n = ((0, 0, 0, 0, 0), 1)) := Lib.hid (by unfold mvT; rw [h1]; rfl)
    clear h1
    go_enter Try.func17, Try.ntmps17
    go_wp2_with fail
    generalize hW : World.alloc _ _ = W
    have bM : Bk W (w.heap.size) #[.int .i64 x, .int .i64 y, .int .i64 u, .int .i64 v, .int .i64 s] 25 := by rw [← hW]; repeat (first | (refine Bk.new' ?_; (simp; done)) | refine Bk.alloc ?_ _)
    have bR : Bk W (w.heap.size + 1) #[.int .i64 0, .int .i64 0, .int .i64 0, .int .i64 0, .int .i64 0] 25 := by rw [← hW]; repeat (first | (refine Bk.new' ?_; (simp; done)) | refine Bk.alloc ?_ _)
    have HB : Hid (Below w.heap.size w W) := Lib.hid (by rw [← hW]; exact (by repeat (first | exact Below.refl _ _ | (refine Below.alloc ?_ (by simp <;> omega) _) | (refine Below.setCell ?_ (by simp <;> omega) _) | (refine Below.drew ?_) | (refine bel_drewN ?_ _))))
    clear hW
    refine (K1.out _).mono ?_
    rintro e w1 ⟨rfl, hb⟩
    replace bM := bM.on hb
    replace bR := bR.on hb
    replace HB := Lib.hid (bel_end HB.out hb)
    clear hb
    have bM_0 := bM.cell 0 rfl
    have bM_1 := bM.cell 1 rfl
    have bM_2 := bM.cell 2 rfl
    have bM_3 := bM.cell 3 rfl
    have bM_4 := bM.cell 4 rfl
    have bM_l := bM.lt
    have bR_0 := bR.cell 0 rfl
    have bR_1 := bR.cell 1 rfl
    have bR_2 := bR.cell 2 rfl
    have bR_3 := bR.cell 3 rfl
    have bR_4 := bR.cell 4 rfl
    have bR_l := bR.lt
    have bR_f0 := bR.frozen 0
    have bR_f1 := bR.frozen 1
    have bR_f2 := bR.frozen 2
    have bR_f3 := bR.frozen 3
    have bR_f4 := bR.frozen 4
    go_wp2
    exact bodyPost_ret (v := .tuple #[.agg #[.int .i64 0, .int .i64 0, .int .i64 0, .int .i64 0, .int .i64 0], .int .i64 1]) (by simp [results, Try.results17, go_sem, bR_0, bR_f0, bR_1, bR_f1, bR_2, bR_f2, bR_3, bR_f3, bR_4, bR_f4, bR_l]) rfl ⟨ret_mv HT.out, (by repeat (first | exact HB.out | (refine Below.setCell ?_ (by simp <;> omega) _) | (refine Below.alloc ?_ (by simp <;> omega) _) | (refine Below.drew ?_)))⟩
  case true =>
    have K1 : Hid (∀ W : World, Calls Try.prog 20 #[.agg #[.int .i64 x, .int .i64 y, .int .i64 u, .int .i64 v, .int .i64 s]] W fun e w' => e = .returned (.bool true) ∧ Below W.heap.size W w') := Lib.hid (fun W => by have := smo_any W x y u v s; rwa [h1] at this)
    cases h2 : inB n 0 100
    case false =>
      have K2 : Hid (∀ W : World, Calls Try.prog 64 #[.int .i64 n, .int .i64 0, .int .i64 100] W fun e w' => e = .returned (.bool false) ∧ W = w') := Lib.hid (fun W => by have := lin_any n 0 100 W; rwa [h2] at this)
      have HT : Hid (mvT x y u v s n = ((0, 0, 0, 0, 0), 2)) := Lib.hid (by unfold mvT; rw [h1, h2]; rfl)
      clear h1 h2
      go_enter Try.func17, Try.ntmps17
      go_wp2_with fail
      generalize hW : World.alloc _ _ = W
      have bM : Bk W (w.heap.size) #[.int .i64 x, .int .i64 y, .int .i64 u, .int .i64 v, .int .i64 s] 25 := by rw [← hW]; repeat (first | (refine Bk.new' ?_; (simp; done)) | refine Bk.alloc ?_ _)
      have bR : Bk W (w.heap.size + 1) #[.int .i64 0, .int .i64 0, .int .i64 0, .int .i64 0, .int .i64 0] 25 := by rw [← hW]; repeat (first | (refine Bk.new' ?_; (simp; done)) | refine Bk.alloc ?_ _)
      have HB : Hid (Below w.heap.size w W) := Lib.hid (by rw [← hW]; exact (by repeat (first | exact Below.refl _ _ | (refine Below.alloc ?_ (by simp <;> omega) _) | (refine Below.setCell ?_ (by simp <;> omega) _) | (refine Below.drew ?_) | (refine bel_drewN ?_ _))))
      clear hW
      refine (K1.out _).mono ?_
      rintro e w1 ⟨rfl, hb⟩
      replace bM := bM.on hb
      replace bR := bR.on hb
      replace HB := Lib.hid (bel_end HB.out hb)
      clear hb
      have bM_0 := bM.cell 0 rfl
      have bM_1 := bM.cell 1 rfl
      have bM_2 := bM.cell 2 rfl
      have bM_3 := bM.cell 3 rfl
      have bM_4 := bM.cell 4 rfl
      have bM_l := bM.lt
      have bR_0 := bR.cell 0 rfl
      have bR_1 := bR.cell 1 rfl
      have bR_2 := bR.cell 2 rfl
      have bR_3 := bR.cell 3 rfl
      have bR_4 := bR.cell 4 rfl
      have bR_l := bR.lt
      have bR_f0 := bR.frozen 0
      have bR_f1 := bR.frozen 1
      have bR_f2 := bR.frozen 2
      have bR_f3 := bR.frozen 3
      have bR_f4 := bR.frozen 4
      go_wp2_with (go_at_call 64; with_reducible refine Calls.mono (K2.out _) ?_; rintro e wc ⟨rfl, rfl⟩)
      exact bodyPost_ret (v := .tuple #[.agg #[.int .i64 0, .int .i64 0, .int .i64 0, .int .i64 0, .int .i64 0], .int .i64 2]) (by simp [results, Try.results17, go_sem, bR_0, bR_f0, bR_1, bR_f1, bR_2, bR_f2, bR_3, bR_f3, bR_4, bR_f4, bR_l]) rfl ⟨ret_mv HT.out, (by repeat (first | exact HB.out | (refine Below.setCell ?_ (by simp <;> omega) _) | (refine Below.alloc ?_ (by simp <;> omega) _) | (refine Below.drew ?_)))⟩
    case true =>
      have K2 : Hid (∀ W : World, Calls Try.prog 64 #[.int .i64 n, .int .i64 0, .int .i64 100] W fun e w' => e = .returned (.bool true) ∧ W = w') := Lib.hid (fun W => by have := lin_any n 0 100 W; rwa [h2] at this)
      have K3 : Hid (∀ W : World, Calls Try.prog 65 #[.agg #[.int .i64 x, .int .i64 y, .int .i64 u, .int .i64 v, .int .i64 s], .int .i64 n] W fun e w' => e = .returned (.agg #[.int .i64 (x + n * u), .int .i64 (y + n * v), .int .i64 u, .int .i64 v, .int .i64 (mvS s n)]) ∧ Below W.heap.size W w') := Lib.hid (fun W => lmv_any W x y u v s n h1 h2)
      have hm := mtB_mv h1 h2
      cases h3 : ctB (x + n * u) (y + n * v)
      case false =>
        have HT : Hid (mvT x y u v s n = ((0, 0, 0, 0, 0), 5)) := Lib.hid (by unfold mvT; rw [h1, h2, h3]; rfl)
        rw [h3] at hm
        have K4 : Hid (∀ W : World, Calls Try.prog 20 #[.agg #[.int .i64 (x + n * u), .int .i64 (y + n * v), .int .i64 u, .int .i64 v, .int .i64 (mvS s n)]] W fun e w' => e = .returned (.bool false) ∧ Below W.heap.size W w') := Lib.hid (fun W => by have := smo_any W (x + n * u) (y + n * v) u v (mvS s n); rwa [hm] at this)
        clear h1 h2 h3 hm
        obtain ⟨X, hX⟩ : ∃ q, x + n * u = q := ⟨_, rfl⟩
        obtain ⟨Y, hY⟩ : ∃ q, y + n * v = q := ⟨_, rfl⟩
        obtain ⟨S, hS⟩ : ∃ q, mvS s n = q := ⟨_, rfl⟩
        rw [hX, hY, hS] at K3 K4
        clear hX hY hS
        go_enter Try.func17, Try.ntmps17
        go_wp2_with fail
        generalize hW : World.alloc _ _ = W
        have bM : Bk W (w.heap.size) #[.int .i64 x, .int .i64 y, .int .i64 u, .int .i64 v, .int .i64 s] 25 := by rw [← hW]; repeat (first | (refine Bk.new' ?_; (simp; done)) | refine Bk.alloc ?_ _)
        have bR : Bk W (w.heap.size + 1) #[.int .i64 0, .int .i64 0, .int .i64 0, .int .i64 0, .int .i64 0] 25 := by rw [← hW]; repeat (first | (refine Bk.new' ?_; (simp; done)) | refine Bk.alloc ?_ _)
        have HB : Hid (Below w.heap.size w W) := Lib.hid (by rw [← hW]; exact (by repeat (first | exact Below.refl _ _ | (refine Below.alloc ?_ (by simp <;> omega) _) | (refine Below.setCell ?_ (by simp <;> omega) _) | (refine Below.drew ?_) | (refine bel_drewN ?_ _))))
        clear hW
        refine (K1.out _).mono ?_
        rintro e w1 ⟨rfl, hb⟩
        replace bM := bM.on hb
        replace bR := bR.on hb
        replace HB := Lib.hid (bel_end HB.out hb)
        clear hb
        have bM_0 := bM.cell 0 rfl
        have bM_1 := bM.cell 1 rfl
        have bM_2 := bM.cell 2 rfl
        have bM_3 := bM.cell 3 rfl
        have bM_4 := bM.cell 4 rfl
        have bM_l := bM.lt
        have bR_0 := bR.cell 0 rfl
        have bR_1 := bR.cell 1 rfl
        have bR_2 := bR.cell 2 rfl
        have bR_3 := bR.cell 3 rfl
        have bR_4 := bR.cell 4 rfl
        have bR_l := bR.lt
        go_wp2_with (first | (go_at_call 64; with_reducible refine Calls.mono (K2.out _) ?_; rintro e wc ⟨rfl, rfl⟩) | (fail))
        clear bM_0 bM_1 bM_2 bM_3 bM_4 bM_l bR_0 bR_1 bR_2 bR_3 bR_4 bR_l
        refine (K3.out _).mono ?_
        rintro e w2 ⟨rfl, hb⟩
        replace bM := bM.on hb
        replace bR := bR.on hb
        replace HB := Lib.hid (bel_end HB.out hb)
        clear hb
        have bM_0 := bM.cell 0 rfl
        have bM_1 := bM.cell 1 rfl
        have bM_2 := bM.cell 2 rfl
        have bM_3 := bM.cell 3 rfl
        have bM_4 := bM.cell 4 rfl
        have bM_l := bM.lt
        have bR_0 := bR.cell 0 rfl
        have bR_1 := bR.cell 1 rfl
        have bR_2 := bR.cell 2 rfl
        have bR_3 := bR.cell 3 rfl
        have bR_4 := bR.cell 4 rfl
        have bR_l := bR.lt
        go_upto_region 6 with fail
        clear bM_0 bM_1 bM_2 bM_3 bM_4 bM_l bR_0 bR_1 bR_2 bR_3 bR_4 bR_l
        generalize hW : World.alloc _ _ = WN
        obtain ⟨gN, hg⟩ : ∃ g, g = w2.heap.size := ⟨_, rfl⟩
        have bN : Bk WN gN #[.int .i64 X, .int .i64 Y, .int .i64 u, .int .i64 v, .int .i64 S] 25 := by rw [← hW]; exact Bk.new' hg
        have hb : Below w2.heap.size w2 WN := by rw [← hW]; exact (Below.refl _ _).alloc (Nat.le_refl _) _
        have ne_bR : gN ≠ w.heap.size + 1 := by have := bR.lt; omega
        try rw [← hg]
        clear hW hg
        replace bM := bM.on hb
        replace bR := bR.on hb
        replace HB := Lib.hid (bel_end HB.out hb)
        clear hb
        have bM_0 := bM.cell 0 rfl
        have bM_1 := bM.cell 1 rfl
        have bM_2 := bM.cell 2 rfl
        have bM_3 := bM.cell 3 rfl
        have bM_4 := bM.cell 4 rfl
        have bM_l := bM.lt
        have bR_0 := bR.cell 0 rfl
        have bR_1 := bR.cell 1 rfl
        have bR_2 := bR.cell 2 rfl
        have bR_3 := bR.cell 3 rfl
        have bR_4 := bR.cell 4 rfl
        have bR_l := bR.lt
        have bN_0 := bN.cell 0 rfl
        have bN_1 := bN.cell 1 rfl
        have bN_2 := bN.cell 2 rfl
        have bN_3 := bN.cell 3 rfl
        have bN_4 := bN.cell 4 rfl
        have bN_l := bN.lt
        go_wp2_with fail
        refine (K4.out _).mono ?_
        rintro e w3 ⟨rfl, hb⟩
        replace bM := bM.on hb
        replace bR := bR.on hb
        replace bN := bN.on hb
        replace HB := Lib.hid (bel_end HB.out hb)
        clear hb
        clear bM_0 bM_1 bM_2 bM_3 bM_4 bM_l bR_0 bR_1 bR_2 bR_3 bR_4 bR_l bN_0 bN_1 bN_2 bN_3 bN_4 bN_l
        have bR_0 := bR.cell 0 rfl
        have bR_1 := bR.cell 1 rfl
        have bR_2 := bR.cell 2 rfl
        have bR_3 := bR.cell 3 rfl
        have bR_4 := bR.cell 4 rfl
        have bR_l := bR.lt
        have bN_0 := bN.cell 0 rfl
        have bN_1 := bN.cell 1 rfl
        have bN_2 := bN.cell 2 rfl
        have bN_3 := bN.cell 3 rfl
        have bN_4 := bN.cell 4 rfl
        have bN_l := bN.lt
        have bR_f0 := bR.frozen 0
        have bR_f1 := bR.frozen 1
        have bR_f2 := bR.frozen 2
        have bR_f3 := bR.frozen 3
        have bR_f4 := bR.frozen 4
        go_wp2
        exact bodyPost_ret (v := .tuple #[.agg #[.int .i64 0, .int .i64 0, .int .i64 0, .int .i64 0, .int .i64 0], .int .i64 5]) (by simp [results, Try.results17, go_sem, bR_0, bR_f0, bR_1, bR_f1, bR_2, bR_f2, bR_3, bR_f3, bR_4, bR_f4, bR_l]) rfl ⟨ret_mv HT.out, (by repeat (first | exact HB.out | (refine Below.setCell ?_ (by simp <;> omega) _) | (refine Below.alloc ?_ (by simp <;> omega) _) | (refine Below.drew ?_)))⟩
      case true =>
        have HT : Hid (mvT x y u v s n = ((x + n * u, y + n * v, u, v, mvS s n), 0)) := Lib.hid (by unfold mvT; rw [h1, h2, h3]; rfl)
        rw [h3] at hm
        have K4 : Hid (∀ W : World, Calls Try.prog 20 #[.agg #[.int .i64 (x + n * u), .int .i64 (y + n * v), .int .i64 u, .int .i64 v, .int .i64 (mvS s n)]] W fun e w' => e = .returned (.bool true) ∧ Below W.heap.size W w') := Lib.hid (fun W => by have := smo_any W (x + n * u) (y + n * v) u v (mvS s n); rwa [hm] at this)
        clear h1 h2 h3 hm
        obtain ⟨X, hX⟩ : ∃ q, x + n * u = q := ⟨_, rfl⟩
        obtain ⟨Y, hY⟩ : ∃ q, y + n * v = q := ⟨_, rfl⟩
        obtain ⟨S, hS⟩ : ∃ q, mvS s n = q := ⟨_, rfl⟩
        rw [hX, hY, hS] at K3 K4
        rw [hX, hY, hS] at HT
        clear hX hY hS
        go_enter Try.func17, Try.ntmps17
        go_wp2_with fail
        generalize hW : World.alloc _ _ = W
        have bM : Bk W (w.heap.size) #[.int .i64 x, .int .i64 y, .int .i64 u, .int .i64 v, .int .i64 s] 25 := by rw [← hW]; repeat (first | (refine Bk.new' ?_; (simp; done)) | refine Bk.alloc ?_ _)
        have bR : Bk W (w.heap.size + 1) #[.int .i64 0, .int .i64 0, .int .i64 0, .int .i64 0, .int .i64 0] 25 := by rw [← hW]; repeat (first | (refine Bk.new' ?_; (simp; done)) | refine Bk.alloc ?_ _)
        have HB : Hid (Below w.heap.size w W) := Lib.hid (by rw [← hW]; exact (by repeat (first | exact Below.refl _ _ | (refine Below.alloc ?_ (by simp <;> omega) _) | (refine Below.setCell ?_ (by simp <;> omega) _) | (refine Below.drew ?_) | (refine bel_drewN ?_ _))))
        clear hW
        refine (K1.out _).mono ?_
        rintro e w1 ⟨rfl, hb⟩
        replace bM := bM.on hb
        replace bR := bR.on hb
        replace HB := Lib.hid (bel_end HB.out hb)
        clear hb
        have bM_0 := bM.cell 0 rfl
        have bM_1 := bM.cell 1 rfl
        have bM_2 := bM.cell 2 rfl
        have bM_3 := bM.cell 3 rfl
        have bM_4 := bM.cell 4 rfl
        have bM_l := bM.lt
        have bR_0 := bR.cell 0 rfl
        have bR_1 := bR.cell 1 rfl
        have bR_2 := bR.cell 2 rfl
        have bR_3 := bR.cell 3 rfl
        have bR_4 := bR.cell 4 rfl
        have bR_l := bR.lt
        go_wp2_with (first | (go_at_call 64; with_reducible refine Calls.mono (K2.out _) ?_; rintro e wc ⟨rfl, rfl⟩) | (fail))
        clear bM_0 bM_1 bM_2 bM_3 bM_4 bM_l bR_0 bR_1 bR_2 bR_3 bR_4 bR_l
        refine (K3.out _).mono ?_
        rintro e w2 ⟨rfl, hb⟩
        replace bM := bM.on hb
        replace bR := bR.on hb
        replace HB := Lib.hid (bel_end HB.out hb)
        clear hb
        have bM_0 := bM.cell 0 rfl
        have bM_1 := bM.cell 1 rfl
        have bM_2 := bM.cell 2 rfl
        have bM_3 := bM.cell 3 rfl
        have bM_4 := bM.cell 4 rfl
        have bM_l := bM.lt
        have bR_0 := bR.cell 0 rfl
        have bR_1 := bR.cell 1 rfl
        have bR_2 := bR.cell 2 rfl
        have bR_3 := bR.cell 3 rfl
        have bR_4 := bR.cell 4 rfl
        have bR_l := bR.lt
        go_upto_region 6 with fail
        clear bM_0 bM_1 bM_2 bM_3 bM_4 bM_l bR_0 bR_1 bR_2 bR_3 bR_4 bR_l
        generalize hW : World.alloc _ _ = WN
        obtain ⟨gN, hg⟩ : ∃ g, g = w2.heap.size := ⟨_, rfl⟩
        have bN : Bk WN gN #[.int .i64 X, .int .i64 Y, .int .i64 u, .int .i64 v, .int .i64 S] 25 := by rw [← hW]; exact Bk.new' hg
        have hb : Below w2.heap.size w2 WN := by rw [← hW]; exact (Below.refl _ _).alloc (Nat.le_refl _) _
        have ne_bR : gN ≠ w.heap.size + 1 := by have := bR.lt; omega
        try rw [← hg]
        clear hW hg
        replace bM := bM.on hb
        replace bR := bR.on hb
        replace HB := Lib.hid (bel_end HB.out hb)
        clear hb
        have bM_0 := bM.cell 0 rfl
        have bM_1 := bM.cell 1 rfl
        have bM_2 := bM.cell 2 rfl
        have bM_3 := bM.cell 3 rfl
        have bM_4 := bM.cell 4 rfl
        have bM_l := bM.lt
        have bR_0 := bR.cell 0 rfl
        have bR_1 := bR.cell 1 rfl
        have bR_2 := bR.cell 2 rfl
        have bR_3 := bR.cell 3 rfl
        have bR_4 := bR.cell 4 rfl
        have bR_l := bR.lt
        have bN_0 := bN.cell 0 rfl
        have bN_1 := bN.cell 1 rfl
        have bN_2 := bN.cell 2 rfl
        have bN_3 := bN.cell 3 rfl
        have bN_4 := bN.cell 4 rfl
        have bN_l := bN.lt
        go_wp2_with fail
        refine (K4.out _).mono ?_
        rintro e w3 ⟨rfl, hb⟩
        replace bM := bM.on hb
        replace bR := bR.on hb
        replace bN := bN.on hb
        replace HB := Lib.hid (bel_end HB.out hb)
        clear hb
        clear bM_0 bM_1 bM_2 bM_3 bM_4 bM_l bR_0 bR_1 bR_2 bR_3 bR_4 bR_l bN_0 bN_1 bN_2 bN_3 bN_4 bN_l
        have bR_0 := bR.cell 0 rfl
        have bR_1 := bR.cell 1 rfl
        have bR_2 := bR.cell 2 rfl
        have bR_3 := bR.cell 3 rfl
        have bR_4 := bR.cell 4 rfl
        have bR_l := bR.lt
        have bN_0 := bN.cell 0 rfl
        have bN_1 := bN.cell 1 rfl
        have bN_2 := bN.cell 2 rfl
        have bN_3 := bN.cell 3 rfl
        have bN_4 := bN.cell 4 rfl
        have bN_l := bN.lt
        have bR_f0 := bR.frozen 0
        have bR_f1 := bR.frozen 1
        have bR_f2 := bR.frozen 2
        have bR_f3 := bR.frozen 3
        have bR_f4 := bR.frozen 4
        go_wp2
        exact bodyPost_ret (v := .tuple #[.agg #[.int .i64 X, .int .i64 Y, .int .i64 u, .int .i64 v, .int .i64 S], .int .i64 0]) (by simp [results, Try.results17, go_sem, bR_0, bR_f0, bR_1, bR_f1, bR_2, bR_f2, bR_3, bR_f3, bR_4, bR_f4, bR_l]) rfl ⟨ret_mv HT.out, (by repeat (first | exact HB.out | (refine Below.setCell ?_ (by simp <;> omega) _) | (refine Below.alloc ?_ (by simp <;> omega) _) | (refine Below.drew ?_)))⟩

set_option maxRecDepth 100000 in
set_option maxHeartbeats 8000000 in
theorem imv14_any (w : World) (x y u v s n : Int) :
    Calls Try.prog 16 #[.agg #[.int .i64 x, .int .i64 y, .int .i64 u, .int .i64 v, .int .i64 s], .int .i64 n] w fun e w' => e = .returned (.tuple #[.agg #[.int .i64 (mvT x y u v s n).1.1, .int .i64 (mvT x y u v s n).1.2.1, .int .i64 (mvT x y u v s n).1.2.2.1, .int .i64 (mvT x y u v s n).1.2.2.2.1, .int .i64 (mvT x y u v s n).1.2.2.2.2], .int .i64 (mvT x y u v s n).2]) ∧ Below w.heap.size w w' := by
  cases h1 : mtB x y u v s
  case false =>
    have K1 : Hid (∀ W : World, Calls Try.prog 19 #[.agg #[.int .i64 x, .int .i64 y, .int .i64 u, .int .i64 v, .int .i64 s]] W fun e w' => e = .returned (.bool false) ∧ Below W.heap.size W w') := Lib.hid (fun W => by have := imo_any W x y u v s; rwa [h1] at this)
    have HT : Hid (mvT x y u v s n = ((0, 0, 0, 0, 0), 1)) := Lib.hid (by unfold mvT; rw [h1]; rfl)
    clear h1
    go_enter Try.func16, Try.ntmps16
    go_wp2_with fail
    generalize hW : World.alloc _ _ = W
    have bM : Bk W (w.heap.size) #[.int .i64 x, .int .i64 y, .int .i64 u, .int .i64 v, .int .i64 s] 25 := by rw [← hW]; repeat (first | (refine Bk.new' ?_; (simp; done)) | refine Bk.alloc ?_ _)
    have bR : Bk W (w.heap.size + 1) #[.int .i64 0, .int .i64 0, .int .i64 0, .int .i64 0, .int .i64 0] 25 := by rw [← hW]; repeat (first | (refine Bk.new' ?_; (simp; done)) | refine Bk.alloc ?_ _)
    have HB : Hid (Below w.heap.size w W) := Lib.hid (by rw [← hW]; exact (by repeat (first | exact Below.refl _ _ | (refine Below.alloc ?_ (by simp <;> omega) _) | (refine Below.setCell ?_ (by simp <;> omega) _) | (refine Below.drew ?_) | (refine bel_drewN ?_ _))))
    clear hW
    refine (K1.out _).mono ?_
    rintro e w1 ⟨rfl, hb⟩
    replace bM := bM.on hb
    replace bR := bR.on hb
    replace HB := Lib.hid (bel_end HB.out hb)
    clear hb
    have bM_0 := bM.cell 0 rfl
    have bM_1 := bM.cell 1 rfl
    have bM_2 := bM.cell 2 rfl
    have bM_3 := bM.cell 3 rfl
    have bM_4 := bM.cell 4 rfl
    have bM_l := bM.lt
    have bR_0 := bR.cell 0 rfl
    have bR_1 := bR.cell 1 rfl
    have bR_2 := bR.cell 2 rfl
    have bR_3 := bR.cell 3 rfl
    have bR_4 := bR.cell 4 rfl
    have bR_l := bR.lt
    have bR_f0 := bR.frozen 0
    have bR_f1 := bR.frozen 1
    have bR_f2 := bR.frozen 2
    have bR_f3 := bR.frozen 3
    have bR_f4 := bR.frozen 4
    go_wp2
    exact bodyPost_ret (v := .tuple #[.agg #[.int .i64 0, .int .i64 0, .int .i64 0, .int .i64 0, .int .i64 0], .int .i64 1]) (by simp [results, Try.results16, go_sem, bR_0, bR_f0, bR_1, bR_f1, bR_2, bR_f2, bR_3, bR_f3, bR_4, bR_f4, bR_l]) rfl ⟨ret_mv HT.out, (by repeat (first | exact HB.out | (refine Below.setCell ?_ (by simp <;> omega) _) | (refine Below.alloc ?_ (by simp <;> omega) _) | (refine Below.drew ?_)))⟩
  case true =>
    have K1 : Hid (∀ W : World, Calls Try.prog 19 #[.agg #[.int .i64 x, .int .i64 y, .int .i64 u, .int .i64 v, .int .i64 s]] W fun e w' => e = .returned (.bool true) ∧ Below W.heap.size W w') := Lib.hid (fun W => by have := imo_any W x y u v s; rwa [h1] at this)
    cases h2 : inB n 0 100
    case false =>
      have KA : Hid (∀ (W : World) (g : Nat), Bk W g #[.int .i64 n] 2 → Calls Try.prog 61 #[.agg #[.int .i64 0, .int .i64 100], .slice (some ⟨g, 0, none⟩) 1 1] W fun e w' => e = .returned (.bool false) ∧ Below W.heap.size W w') := Lib.hid (fun W g hg => by have := are_any W _ 1 1 [n] 0 100 rfl (by omega) (ints1p hg); rwa [anyLack_1, h2] at this)
      have HT : Hid (mvT x y u v s n = ((0, 0, 0, 0, 0), 2)) := Lib.hid (by unfold mvT; rw [h1, h2]; rfl)
      clear h1 h2
      go_enter Try.func16, Try.ntmps16
      go_wp2_with fail
      generalize hW : World.alloc _ _ = W
      have bM : Bk W (w.heap.size) #[.int .i64 x, .int .i64 y, .int .i64 u, .int .i64 v, .int .i64 s] 25 := by rw [← hW]; repeat (first | (refine Bk.new' ?_; (simp; done)) | refine Bk.alloc ?_ _)
      have bR : Bk W (w.heap.size + 1) #[.int .i64 0, .int .i64 0, .int .i64 0, .int .i64 0, .int .i64 0] 25 := by rw [← hW]; repeat (first | (refine Bk.new' ?_; (simp; done)) | refine Bk.alloc ?_ _)
      have HB : Hid (Below w.heap.size w W) := Lib.hid (by rw [← hW]; exact (by repeat (first | exact Below.refl _ _ | (refine Below.alloc ?_ (by simp <;> omega) _) | (refine Below.setCell ?_ (by simp <;> omega) _) | (refine Below.drew ?_) | (refine bel_drewN ?_ _))))
      clear hW
      refine (K1.out _).mono ?_
      rintro e w1 ⟨rfl, hb⟩
      replace bM := bM.on hb
      replace bR := bR.on hb
      replace HB := Lib.hid (bel_end HB.out hb)
      clear hb
      have bM_0 := bM.cell 0 rfl
      have bM_1 := bM.cell 1 rfl
      have bM_2 := bM.cell 2 rfl
      have bM_3 := bM.cell 3 rfl
      have bM_4 := bM.cell 4 rfl
      have bM_l := bM.lt
      have bR_0 := bR.cell 0 rfl
      have bR_1 := bR.cell 1 rfl
      have bR_2 := bR.cell 2 rfl
      have bR_3 := bR.cell 3 rfl
      have bR_4 := bR.cell 4 rfl
      have bR_l := bR.lt
      go_wp2_with fail
      clear bM_0 bM_1 bM_2 bM_3 bM_4 bM_l bR_0 bR_1 bR_2 bR_3 bR_4 bR_l
      generalize hW : World.alloc _ _ = WB
      obtain ⟨gB, hg⟩ : ∃ g, g = w1.heap.size := ⟨_, rfl⟩
      have bB : Bk WB gB #[.int .i64 n] 2 := by rw [← hW]; exact Bk.new' hg
      have hb : Below w1.heap.size w1 WB := by rw [← hW]; exact (Below.refl _ _).alloc (Nat.le_refl _) _
      try rw [← hg]
      clear hW hg
      replace bM := bM.on hb
      replace bR := bR.on hb
      replace HB := Lib.hid (bel_end HB.out hb)
      clear hb
      refine (KA.out _ _ bB).mono ?_
      rintro e w2 ⟨rfl, hb⟩
      replace bM := bM.on hb
      replace bR := bR.on hb
      replace HB := Lib.hid (bel_end HB.out hb)
      clear hb
      have bM_0 := bM.cell 0 rfl
      have bM_1 := bM.cell 1 rfl
      have bM_2 := bM.cell 2 rfl
      have bM_3 := bM.cell 3 rfl
      have bM_4 := bM.cell 4 rfl
      have bM_l := bM.lt
      have bR_0 := bR.cell 0 rfl
      have bR_1 := bR.cell 1 rfl
      have bR_2 := bR.cell 2 rfl
      have bR_3 := bR.cell 3 rfl
      have bR_4 := bR.cell 4 rfl
      have bR_l := bR.lt
      have bR_f0 := bR.frozen 0
      have bR_f1 := bR.frozen 1
      have bR_f2 := bR.frozen 2
      have bR_f3 := bR.frozen 3
      have bR_f4 := bR.frozen 4
      go_wp2
      exact bodyPost_ret (v := .tuple #[.agg #[.int .i64 0, .int .i64 0, .int .i64 0, .int .i64 0, .int .i64 0], .int .i64 2]) (by simp [results, Try.results16, go_sem, bR_0, bR_f0, bR_1, bR_f1, bR_2, bR_f2, bR_3, bR_f3, bR_4, bR_f4, bR_l]) rfl ⟨ret_mv HT.out, (by repeat (first | exact HB.out | (refine Below.setCell ?_ (by simp <;> omega) _) | (refine Below.alloc ?_ (by simp <;> omega) _) | (refine Below.drew ?_)))⟩
    case true =>
      have KA : Hid (∀ (W : World) (g : Nat), Bk W g #[.int .i64 n] 2 → Calls Try.prog 61 #[.agg #[.int .i64 0, .int .i64 100], .slice (some ⟨g, 0, none⟩) 1 1] W fun e w' => e = .returned (.bool true) ∧ Below W.heap.size W w') := Lib.hid (fun W g hg => by have := are_any W _ 1 1 [n] 0 100 rfl (by omega) (ints1p hg); rwa [anyLack_1, h2] at this)
      obtain ⟨-, ⟨u0, u1⟩, ⟨v0, v1⟩, s0, s1⟩ := mtB_t h1
      obtain ⟨x0, x1, y0, y1⟩ := ctB_t (mtB_t h1).1
      obtain ⟨n0, n1⟩ := inB_t h2
      have m1 := mul_bd (n := n) (u := u) (N := 100) (U := 1000) (by omega) (by omega)
      have m2 := mul_bd (n := n) (u := v) (N := 100) (U := 1000) (by omega) (by omega)
      obtain ⟨P, hP⟩ : ∃ q, n * u = q := ⟨_, rfl⟩
      obtain ⟨R, hR⟩ : ∃ q, n * v = q := ⟨_, rfl⟩
      rw [hP] at m1
      rw [hR] at m2
      have e1 : IntKind.wrap .i64 (n * u) = P := by rw [hP]; exact IntWalk.i64_in _ (by omega)
      have e2 : IntKind.wrap .i64 (n * v) = R := by rw [hR]; exact IntWalk.i64_in _ (by omega)
      have e3 : IntKind.wrap .i64 (x + P) = x + P := IntWalk.i64_in _ (by omega)
      have e4 : IntKind.wrap .i64 (y + R) = y + R := IntWalk.i64_in _ (by omega)
      have e5 : IntKind.wrap .i64 (n * 50) = n * 50 := IntWalk.i64_in _ (by omega)
      have e6 : IntKind.wrap .i64 (s + n * 50) = s + n * 50 := IntWalk.i64_in _ (by omega)
      obtain ⟨S, hS⟩ : ∃ q, mvS s n = q := ⟨_, rfl⟩
      have SP : Hid (s + n * 50 ≤ 10000 → s + n * 50 = S) := Lib.hid (fun h => by rw [← hS]; unfold mvS; rw [if_pos h])
      have SN : Hid (¬ s + n * 50 ≤ 10000 → S = 10000) := Lib.hid (fun h => by rw [← hS]; unfold mvS; rw [if_neg h])
      cases h3 : ctB (x + n * u) (y + n * v)
      case false =>
        have HT : Hid (mvT x y u v s n = ((0, 0, 0, 0, 0), 5)) := Lib.hid (by unfold mvT; rw [h1, h2, h3]; rfl)
        have K4 : Hid (∀ W : World, Calls Try.prog 63 #[.agg #[.int .i64 (x + n * u), .int .i64 (y + n * v)], .int .i64 100000] W fun e w' => e = .returned (.bool false) ∧ Below W.heap.size W w') := Lib.hid (fun W => by have := iwi_any W 100000 (x + n * u) (y + n * v) (by omega) (by omega); rwa [ptB_ct, h3] at this)
        rw [hP, hR] at K4
        have K3 : Hid (∀ W : World, Calls Try.prog 62 #[.agg #[.int .i64 (x + P), .int .i64 (y + R), .int .i64 u, .int .i64 v, .int .i64 S]] W fun e w' => e = .returned (.agg #[.int .i64 (x + P), .int .i64 (y + R)]) ∧ Below W.heap.size W w') := Lib.hid (fun W => ipo14_any W (x + P) (y + R) u v S)
        clear h1 h2 h3 hS hP hR m1 m2 u0 u1 v0 v1 s0 s1 x0 x1 y0 y1 n0 n1
        go_enter Try.func16, Try.ntmps16
        go_wp2_with fail
        generalize hW : World.alloc _ _ = W
        have bM : Bk W (w.heap.size) #[.int .i64 x, .int .i64 y, .int .i64 u, .int .i64 v, .int .i64 s] 25 := by rw [← hW]; repeat (first | (refine Bk.new' ?_; (simp; done)) | refine Bk.alloc ?_ _)
        have bR : Bk W (w.heap.size + 1) #[.int .i64 0, .int .i64 0, .int .i64 0, .int .i64 0, .int .i64 0] 25 := by rw [← hW]; repeat (first | (refine Bk.new' ?_; (simp; done)) | refine Bk.alloc ?_ _)
        have HB : Hid (Below w.heap.size w W) := Lib.hid (by rw [← hW]; exact (by repeat (first | exact Below.refl _ _ | (refine Below.alloc ?_ (by simp <;> omega) _) | (refine Below.setCell ?_ (by simp <;> omega) _) | (refine Below.drew ?_) | (refine bel_drewN ?_ _))))
        clear hW
        refine (K1.out _).mono ?_
        rintro e w1 ⟨rfl, hb⟩
        replace bM := bM.on hb
        replace bR := bR.on hb
        replace HB := Lib.hid (bel_end HB.out hb)
        clear hb
        have bM_0 := bM.cell 0 rfl
        have bM_1 := bM.cell 1 rfl
        have bM_2 := bM.cell 2 rfl
        have bM_3 := bM.cell 3 rfl
        have bM_4 := bM.cell 4 rfl
        have bM_l := bM.lt
        have bR_0 := bR.cell 0 rfl
        have bR_1 := bR.cell 1 rfl
        have bR_2 := bR.cell 2 rfl
        have bR_3 := bR.cell 3 rfl
        have bR_4 := bR.cell 4 rfl
        have bR_l := bR.lt
        go_wp2_with fail
        clear bM_0 bM_1 bM_2 bM_3 bM_4 bM_l bR_0 bR_1 bR_2 bR_3 bR_4 bR_l
        generalize hW : World.alloc _ _ = WB
        obtain ⟨gB, hg⟩ : ∃ g, g = w1.heap.size := ⟨_, rfl⟩
        have bB : Bk WB gB #[.int .i64 n] 2 := by rw [← hW]; exact Bk.new' hg
        have hb : Below w1.heap.size w1 WB := by rw [← hW]; exact (Below.refl _ _).alloc (Nat.le_refl _) _
        try rw [← hg]
        clear hW hg
        replace bM := bM.on hb
        replace bR := bR.on hb
        replace HB := Lib.hid (bel_end HB.out hb)
        clear hb
        refine (KA.out _ _ bB).mono ?_
        rintro e w2 ⟨rfl, hb⟩
        replace bM := bM.on hb
        replace bR := bR.on hb
        replace HB := Lib.hid (bel_end HB.out hb)
        clear hb
        have bM_0 := bM.cell 0 rfl
        have bM_1 := bM.cell 1 rfl
        have bM_2 := bM.cell 2 rfl
        have bM_3 := bM.cell 3 rfl
        have bM_4 := bM.cell 4 rfl
        have bM_l := bM.lt
        have bR_0 := bR.cell 0 rfl
        have bR_1 := bR.cell 1 rfl
        have bR_2 := bR.cell 2 rfl
        have bR_3 := bR.cell 3 rfl
        have bR_4 := bR.cell 4 rfl
        have bR_l := bR.lt
        have bM_f0 := bM.frozen 0
        have bM_f1 := bM.frozen 1
        have bM_f2 := bM.frozen 2
        have bM_f3 := bM.frozen 3
        have bM_f4 := bM.frozen 4
        go_upto_region 6 with fail
        clear bM_0 bM_1 bM_2 bM_3 bM_4 bM_l bR_0 bR_1 bR_2 bR_3 bR_4 bR_l
        clear bM_f0 bM_f1 bM_f2 bM_f3 bM_f4
        generalize hW : World.setCell _ _ _ = WS1
        replace bM : Bk WS1 w.heap.size #[.int .i64 (x + P), .int .i64 y, .int .i64 u, .int .i64 v, .int .i64 s] 25 := by rw [← hW]; exact bM.set 0 _ rfl
        replace bR := bR.other (show w.heap.size + 1 ≠ w.heap.size by omega) 0 (.int .i64 (x + P))
        rw [hW] at bR
        replace HB := Lib.hid (HB.out.setCell (p := ⟨w.heap.size, 0, none⟩) (by simp) (.int .i64 (x + P)))
        rw [hW] at HB
        clear hW
        have bM_0 := bM.cell 0 rfl
        have bM_1 := bM.cell 1 rfl
        have bM_2 := bM.cell 2 rfl
        have bM_3 := bM.cell 3 rfl
        have bM_4 := bM.cell 4 rfl
        have bM_l := bM.lt
        have bR_0 := bR.cell 0 rfl
        have bR_1 := bR.cell 1 rfl
        have bR_2 := bR.cell 2 rfl
        have bR_3 := bR.cell 3 rfl
        have bR_4 := bR.cell 4 rfl
        have bR_l := bR.lt
        have bM_f0 := bM.frozen 0
        have bM_f1 := bM.frozen 1
        have bM_f2 := bM.frozen 2
        have bM_f3 := bM.frozen 3
        have bM_f4 := bM.frozen 4
        go_upto_region 7 with fail
        clear bM_0 bM_1 bM_2 bM_3 bM_4 bM_l bR_0 bR_1 bR_2 bR_3 bR_4 bR_l
        clear bM_f0 bM_f1 bM_f2 bM_f3 bM_f4
        generalize hW : World.setCell _ _ _ = WS2
        replace bM : Bk WS2 w.heap.size #[.int .i64 (x + P), .int .i64 (y + R), .int .i64 u, .int .i64 v, .int .i64 s] 25 := by rw [← hW]; exact bM.set 1 _ rfl
        replace bR := bR.other (show w.heap.size + 1 ≠ w.heap.size by omega) 1 (.int .i64 (y + R))
        rw [hW] at bR
        replace HB := Lib.hid (HB.out.setCell (p := ⟨w.heap.size, 1, none⟩) (by simp) (.int .i64 (y + R)))
        rw [hW] at HB
        clear hW
        by_cases hs : s + n * 50 ≤ 10000
        case pos =>
          have e8 := SP.out hs
          subst e8
          have bM_0 := bM.cell 0 rfl
          have bM_1 := bM.cell 1 rfl
          have bM_2 := bM.cell 2 rfl
          have bM_3 := bM.cell 3 rfl
          have bM_4 := bM.cell 4 rfl
          have bM_l := bM.lt
          have bR_0 := bR.cell 0 rfl
          have bR_1 := bR.cell 1 rfl
          have bR_2 := bR.cell 2 rfl
          have bR_3 := bR.cell 3 rfl
          have bR_4 := bR.cell 4 rfl
          have bR_l := bR.lt
          have bM_f0 := bM.frozen 0
          have bM_f1 := bM.frozen 1
          have bM_f2 := bM.frozen 2
          have bM_f3 := bM.frozen 3
          have bM_f4 := bM.frozen 4
          go_upto_region 8 with fail
          clear bM_0 bM_1 bM_2 bM_3 bM_4 bM_l bR_0 bR_1 bR_2 bR_3 bR_4 bR_l
          clear bM_f0 bM_f1 bM_f2 bM_f3 bM_f4
          generalize hW : World.setCell _ _ _ = WS3
          replace bM : Bk WS3 w.heap.size #[.int .i64 (x + P), .int .i64 (y + R), .int .i64 u, .int .i64 v, .int .i64 (s + n * 50)] 25 := by rw [← hW]; exact bM.set 4 _ rfl
          replace bR := bR.other (show w.heap.size + 1 ≠ w.heap.size by omega) 4 (.int .i64 (s + n * 50))
          rw [hW] at bR
          replace HB := Lib.hid (HB.out.setCell (p := ⟨w.heap.size, 4, none⟩) (by simp) (.int .i64 (s + n * 50)))
          rw [hW] at HB
          clear hW
          have bM_0 := bM.cell 0 rfl
          have bM_1 := bM.cell 1 rfl
          have bM_2 := bM.cell 2 rfl
          have bM_3 := bM.cell 3 rfl
          have bM_4 := bM.cell 4 rfl
          have bM_l := bM.lt
          have bR_0 := bR.cell 0 rfl
          have bR_1 := bR.cell 1 rfl
          have bR_2 := bR.cell 2 rfl
          have bR_3 := bR.cell 3 rfl
          have bR_4 := bR.cell 4 rfl
          have bR_l := bR.lt
          go_wp2_with fail
          refine (K3.out _).mono ?_
          rintro e w3 ⟨rfl, hb⟩
          replace bM := bM.on hb
          replace bR := bR.on hb
          replace HB := Lib.hid (bel_end HB.out hb)
          clear hb
          clear bM_0 bM_1 bM_2 bM_3 bM_4 bM_l bR_0 bR_1 bR_2 bR_3 bR_4 bR_l
          have bM_0 := bM.cell 0 rfl
          have bM_1 := bM.cell 1 rfl
          have bM_2 := bM.cell 2 rfl
          have bM_3 := bM.cell 3 rfl
          have bM_4 := bM.cell 4 rfl
          have bM_l := bM.lt
          have bR_0 := bR.cell 0 rfl
          have bR_1 := bR.cell 1 rfl
          have bR_2 := bR.cell 2 rfl
          have bR_3 := bR.cell 3 rfl
          have bR_4 := bR.cell 4 rfl
          have bR_l := bR.lt
          go_wp2_with fail
          refine (K4.out _).mono ?_
          rintro e w4 ⟨rfl, hb⟩
          replace bM := bM.on hb
          replace bR := bR.on hb
          replace HB := Lib.hid (bel_end HB.out hb)
          clear hb
          clear bM_0 bM_1 bM_2 bM_3 bM_4 bM_l bR_0 bR_1 bR_2 bR_3 bR_4 bR_l
          have bM_0 := bM.cell 0 rfl
          have bM_1 := bM.cell 1 rfl
          have bM_2 := bM.cell 2 rfl
          have bM_3 := bM.cell 3 rfl
          have bM_4 := bM.cell 4 rfl
          have bM_l := bM.lt
          have bR_0 := bR.cell 0 rfl
          have bR_1 := bR.cell 1 rfl
          have bR_2 := bR.cell 2 rfl
          have bR_3 := bR.cell 3 rfl
          have bR_4 := bR.cell 4 rfl
          have bR_l := bR.lt
          have bR_f0 := bR.frozen 0
          have bR_f1 := bR.frozen 1
          have bR_f2 := bR.frozen 2
          have bR_f3 := bR.frozen 3
          have bR_f4 := bR.frozen 4
          go_wp2
          exact bodyPost_ret (v := .tuple #[.agg #[.int .i64 0, .int .i64 0, .int .i64 0, .int .i64 0, .int .i64 0], .int .i64 5]) (by simp [results, Try.results16, go_sem, bR_0, bR_f0, bR_1, bR_f1, bR_2, bR_f2, bR_3, bR_f3, bR_4, bR_f4, bR_l]) rfl ⟨ret_mv HT.out, (by repeat (first | exact HB.out | (refine Below.setCell ?_ (by simp <;> omega) _) | (refine Below.alloc ?_ (by simp <;> omega) _) | (refine Below.drew ?_)))⟩
        case neg =>
          have e8 := SN.out (by omega)
          subst e8
          have h9 : 10000 < s + n * 50 := by omega
          clear hs
          have bM_0 := bM.cell 0 rfl
          have bM_1 := bM.cell 1 rfl
          have bM_2 := bM.cell 2 rfl
          have bM_3 := bM.cell 3 rfl
          have bM_4 := bM.cell 4 rfl
          have bM_l := bM.lt
          have bR_0 := bR.cell 0 rfl
          have bR_1 := bR.cell 1 rfl
          have bR_2 := bR.cell 2 rfl
          have bR_3 := bR.cell 3 rfl
          have bR_4 := bR.cell 4 rfl
          have bR_l := bR.lt
          have bM_f0 := bM.frozen 0
          have bM_f1 := bM.frozen 1
          have bM_f2 := bM.frozen 2
          have bM_f3 := bM.frozen 3
          have bM_f4 := bM.frozen 4
          go_upto_region 8 with fail
          clear bM_0 bM_1 bM_2 bM_3 bM_4 bM_l bR_0 bR_1 bR_2 bR_3 bR_4 bR_l
          clear bM_f0 bM_f1 bM_f2 bM_f3 bM_f4
          generalize hW : World.setCell _ _ _ = WS3
          replace bM : Bk WS3 w.heap.size #[.int .i64 (x + P), .int .i64 (y + R), .int .i64 u, .int .i64 v, .int .i64 10000] 25 := by rw [← hW]; exact bM.set 4 _ rfl
          replace bR := bR.other (show w.heap.size + 1 ≠ w.heap.size by omega) 4 (.int .i64 10000)
          rw [hW] at bR
          replace HB := Lib.hid (HB.out.setCell (p := ⟨w.heap.size, 4, none⟩) (by simp) (.int .i64 10000))
          rw [hW] at HB
          clear hW
          have bM_0 := bM.cell 0 rfl
          have bM_1 := bM.cell 1 rfl
          have bM_2 := bM.cell 2 rfl
          have bM_3 := bM.cell 3 rfl
          have bM_4 := bM.cell 4 rfl
          have bM_l := bM.lt
          have bR_0 := bR.cell 0 rfl
          have bR_1 := bR.cell 1 rfl
          have bR_2 := bR.cell 2 rfl
          have bR_3 := bR.cell 3 rfl
          have bR_4 := bR.cell 4 rfl
          have bR_l := bR.lt
          go_wp2_with fail
          refine (K3.out _).mono ?_
          rintro e w3 ⟨rfl, hb⟩
          replace bM := bM.on hb
          replace bR := bR.on hb
          replace HB := Lib.hid (bel_end HB.out hb)
          clear hb
          clear bM_0 bM_1 bM_2 bM_3 bM_4 bM_l bR_0 bR_1 bR_2 bR_3 bR_4 bR_l
          have bM_0 := bM.cell 0 rfl
          have bM_1 := bM.cell 1 rfl
          have bM_2 := bM.cell 2 rfl
          have bM_3 := bM.cell 3 rfl
          have bM_4 := bM.cell 4 rfl
          have bM_l := bM.lt
          have bR_0 := bR.cell 0 rfl
          have bR_1 := bR.cell 1 rfl
          have bR_2 := bR.cell 2 rfl
          have bR_3 := bR.cell 3 rfl
          have bR_4 := bR.cell 4 rfl
          have bR_l := bR.lt
          go_wp2_with fail
          refine (K4.out _).mono ?_
          rintro e w4 ⟨rfl, hb⟩
          replace bM := bM.on hb
          replace bR := bR.on hb
          replace HB := Lib.hid (bel_end HB.out hb)
          clear hb
          clear bM_0 bM_1 bM_2 bM_3 bM_4 bM_l bR_0 bR_1 bR_2 bR_3 bR_4 bR_l
          have bM_0 := bM.cell 0 rfl
          have bM_1 := bM.cell 1 rfl
          have bM_2 := bM.cell 2 rfl
          have bM_3 := bM.cell 3 rfl
          have bM_4 := bM.cell 4 rfl
          have bM_l := bM.lt
          have bR_0 := bR.cell 0 rfl
          have bR_1 := bR.cell 1 rfl
          have bR_2 := bR.cell 2 rfl
          have bR_3 := bR.cell 3 rfl
          have bR_4 := bR.cell 4 rfl
          have bR_l := bR.lt
          have bR_f0 := bR.frozen 0
          have bR_f1 := bR.frozen 1
          have bR_f2 := bR.frozen 2
          have bR_f3 := bR.frozen 3
          have bR_f4 := bR.frozen 4
          go_wp2
          exact bodyPost_ret (v := .tuple #[.agg #[.int .i64 0, .int .i64 0, .int .i64 0, .int .i64 0, .int .i64 0], .int .i64 5]) (by simp [results, Try.results16, go_sem, bR_0, bR_f0, bR_1, bR_f1, bR_2, bR_f2, bR_3, bR_f3, bR_4, bR_f4, bR_l]) rfl ⟨ret_mv HT.out, (by repeat (first | exact HB.out | (refine Below.setCell ?_ (by simp <;> omega) _) | (refine Below.alloc ?_ (by simp <;> omega) _) | (refine Below.drew ?_)))⟩
      case true =>
        have HT : Hid (mvT x y u v s n = ((x + n * u, y + n * v, u, v, mvS s n), 0)) := Lib.hid (by unfold mvT; rw [h1, h2, h3]; rfl)
        have K4 : Hid (∀ W : World, Calls Try.prog 63 #[.agg #[.int .i64 (x + n * u), .int .i64 (y + n * v)], .int .i64 100000] W fun e w' => e = .returned (.bool true) ∧ Below W.heap.size W w') := Lib.hid (fun W => by have := iwi_any W 100000 (x + n * u) (y + n * v) (by omega) (by omega); rwa [ptB_ct, h3] at this)
        rw [hP, hR] at K4
        rw [hP, hR, hS] at HT
        have K3 : Hid (∀ W : World, Calls Try.prog 62 #[.agg #[.int .i64 (x + P), .int .i64 (y + R), .int .i64 u, .int .i64 v, .int .i64 S]] W fun e w' => e = .returned (.agg #[.int .i64 (x + P), .int .i64 (y + R)]) ∧ Below W.heap.size W w') := Lib.hid (fun W => ipo14_any W (x + P) (y + R) u v S)
        clear h1 h2 h3 hS hP hR m1 m2 u0 u1 v0 v1 s0 s1 x0 x1 y0 y1 n0 n1
        go_enter Try.func16, Try.ntmps16
        go_wp2_with fail
        generalize hW : World.alloc _ _ = W
        have bM : Bk W (w.heap.size) #[.int .i64 x, .int .i64 y, .int .i64 u, .int .i64 v, .int .i64 s] 25 := by rw [← hW]; repeat (first | (refine Bk.new' ?_; (simp; done)) | refine Bk.alloc ?_ _)
        have bR : Bk W (w.heap.size + 1) #[.int .i64 0, .int .i64 0, .int .i64 0, .int .i64 0, .int .i64 0] 25 := by rw [← hW]; repeat (first | (refine Bk.new' ?_; (simp; done)) | refine Bk.alloc ?_ _)
        have HB : Hid (Below w.heap.size w W) := Lib.hid (by rw [← hW]; exact (by repeat (first | exact Below.refl _ _ | (refine Below.alloc ?_ (by simp <;> omega) _) | (refine Below.setCell ?_ (by simp <;> omega) _) | (refine Below.drew ?_) | (refine bel_drewN ?_ _))))
        clear hW
        refine (K1.out _).mono ?_
        rintro e w1 ⟨rfl, hb⟩
        replace bM := bM.on hb
        replace bR := bR.on hb
        replace HB := Lib.hid (bel_end HB.out hb)
        clear hb
        have bM_0 := bM.cell 0 rfl
        have bM_1 := bM.cell 1 rfl
        have bM_2 := bM.cell 2 rfl
        have bM_3 := bM.cell 3 rfl
        have bM_4 := bM.cell 4 rfl
        have bM_l := bM.lt
        have bR_0 := bR.cell 0 rfl
        have bR_1 := bR.cell 1 rfl
        have bR_2 := bR.cell 2 rfl
        have bR_3 := bR.cell 3 rfl
        have bR_4 := bR.cell 4 rfl
        have bR_l := bR.lt
        go_wp2_with fail
        clear bM_0 bM_1 bM_2 bM_3 bM_4 bM_l bR_0 bR_1 bR_2 bR_3 bR_4 bR_l
        generalize hW : World.alloc _ _ = WB
        obtain ⟨gB, hg⟩ : ∃ g, g = w1.heap.size := ⟨_, rfl⟩
        have bB : Bk WB gB #[.int .i64 n] 2 := by rw [← hW]; exact Bk.new' hg
        have hb : Below w1.heap.size w1 WB := by rw [← hW]; exact (Below.refl _ _).alloc (Nat.le_refl _) _
        try rw [← hg]
        clear hW hg
        replace bM := bM.on hb
        replace bR := bR.on hb
        replace HB := Lib.hid (bel_end HB.out hb)
        clear hb
        refine (KA.out _ _ bB).mono ?_
        rintro e w2 ⟨rfl, hb⟩
        replace bM := bM.on hb
        replace bR := bR.on hb
        replace HB := Lib.hid (bel_end HB.out hb)
        clear hb
        have bM_0 := bM.cell 0 rfl
        have bM_1 := bM.cell 1 rfl
        have bM_2 := bM.cell 2 rfl
        have bM_3 := bM.cell 3 rfl
        have bM_4 := bM.cell 4 rfl
        have bM_l := bM.lt
        have bR_0 := bR.cell 0 rfl
        have bR_1 := bR.cell 1 rfl
        have bR_2 := bR.cell 2 rfl
        have bR_3 := bR.cell 3 rfl
        have bR_4 := bR.cell 4 rfl
        have bR_l := bR.lt
        have bM_f0 := bM.frozen 0
        have bM_f1 := bM.frozen 1
        have bM_f2 := bM.frozen 2
        have bM_f3 := bM.frozen 3
        have bM_f4 := bM.frozen 4
        go_upto_region 6 with fail
        clear bM_0 bM_1 bM_2 bM_3 bM_4 bM_l bR_0 bR_1 bR_2 bR_3 bR_4 bR_l
        clear bM_f0 bM_f1 bM_f2 bM_f3 bM_f4
        generalize hW : World.setCell _ _ _ = WS1
        replace bM : Bk WS1 w.heap.size #[.int .i64 (x + P), .int .i64 y, .int .i64 u, .int .i64 v, .int .i64 s] 25 := by rw [← hW]; exact bM.set 0 _ rfl
        replace bR := bR.other (show w.heap.size + 1 ≠ w.heap.size by omega) 0 (.int .i64 (x + P))
        rw [hW] at bR
        replace HB := Lib.hid (HB.out.setCell (p := ⟨w.heap.size, 0, none⟩) (by simp) (.int .i64 (x + P)))
        rw [hW] at HB
        clear hW
        have bM_0 := bM.cell 0 rfl
        have bM_1 := bM.cell 1 rfl
        have bM_2 := bM.cell 2 rfl
        have bM_3 := bM.cell 3 rfl
        have bM_4 := bM.cell 4 rfl
        have bM_l := bM.lt
        have bR_0 := bR.cell 0 rfl
        have bR_1 := bR.cell 1 rfl
        have bR_2 := bR.cell 2 rfl
        have bR_3 := bR.cell 3 rfl
        have bR_4 := bR.cell 4 rfl
        have bR_l := bR.lt
        have bM_f0 := bM.frozen 0
        have bM_f1 := bM.frozen 1
        have bM_f2 := bM.frozen 2
        have bM_f3 := bM.frozen 3
        have bM_f4 := bM.frozen 4
        go_upto_region 7 with fail
        clear bM_0 bM_1 bM_2 bM_3 bM_4 bM_l bR_0 bR_1 bR_2 bR_3 bR_4 bR_l
        clear bM_f0 bM_f1 bM_f2 bM_f3 bM_f4
        generalize hW : World.setCell _ _ _ = WS2
        replace bM : Bk WS2 w.heap.size #[.int .i64 (x + P), .int .i64 (y + R), .int .i64 u, .int .i64 v, .int .i64 s] 25 := by rw [← hW]; exact bM.set 1 _ rfl
        replace bR := bR.other (show w.heap.size + 1 ≠ w.heap.size by omega) 1 (.int .i64 (y + R))
        rw [hW] at bR
        replace HB := Lib.hid (HB.out.setCell (p := ⟨w.heap.size, 1, none⟩) (by simp) (.int .i64 (y + R)))
        rw [hW] at HB
        clear hW
        by_cases hs : s + n * 50 ≤ 10000
        case pos =>
          have e8 := SP.out hs
          subst e8
          have bM_0 := bM.cell 0 rfl
          have bM_1 := bM.cell 1 rfl
          have bM_2 := bM.cell 2 rfl
          have bM_3 := bM.cell 3 rfl
          have bM_4 := bM.cell 4 rfl
          have bM_l := bM.lt
          have bR_0 := bR.cell 0 rfl
          have bR_1 := bR.cell 1 rfl
          have bR_2 := bR.cell 2 rfl
          have bR_3 := bR.cell 3 rfl
          have bR_4 := bR.cell 4 rfl
          have bR_l := bR.lt
          have bM_f0 := bM.frozen 0
          have bM_f1 := bM.frozen 1
          have bM_f2 := bM.frozen 2
          have bM_f3 := bM.frozen 3
          have bM_f4 := bM.frozen 4
          go_upto_region 8 with fail
          clear bM_0 bM_1 bM_2 bM_3 bM_4 bM_l bR_0 bR_1 bR_2 bR_3 bR_4 bR_l
          clear bM_f0 bM_f1 bM_f2 bM_f3 bM_f4
          generalize hW : World.setCell _ _ _ = WS3
          replace bM : Bk WS3 w.heap.size #[.int .i64 (x + P), .int .i64 (y + R), .int .i64 u, .int .i64 v, .int .i64 (s + n * 50)] 25 := by rw [← hW]; exact bM.set 4 _ rfl
          replace bR := bR.other (show w.heap.size + 1 ≠ w.heap.size by omega) 4 (.int .i64 (s + n * 50))
          rw [hW] at bR
          replace HB := Lib.hid (HB.out.setCell (p := ⟨w.heap.size, 4, none⟩) (by simp) (.int .i64 (s + n * 50)))
          rw [hW] at HB
          clear hW
          have bM_0 := bM.cell 0 rfl
          have bM_1 := bM.cell 1 rfl
          have bM_2 := bM.cell 2 rfl
          have bM_3 := bM.cell 3 rfl
          have bM_4 := bM.cell 4 rfl
          have bM_l := bM.lt
          have bR_0 := bR.cell 0 rfl
          have bR_1 := bR.cell 1 rfl
          have bR_2 := bR.cell 2 rfl
          have bR_3 := bR.cell 3 rfl
          have bR_4 := bR.cell 4 rfl
          have bR_l := bR.lt
          go_wp2_with fail
          refine (K3.out _).mono ?_
          rintro e w3 ⟨rfl, hb⟩
          replace bM := bM.on hb
          replace bR := bR.on hb
          replace HB := Lib.hid (bel_end HB.out hb)
          clear hb
          clear bM_0 bM_1 bM_2 bM_3 bM_4 bM_l bR_0 bR_1 bR_2 bR_3 bR_4 bR_l
          have bM_0 := bM.cell 0 rfl
          have bM_1 := bM.cell 1 rfl
          have bM_2 := bM.cell 2 rfl
          have bM_3 := bM.cell 3 rfl
          have bM_4 := bM.cell 4 rfl
          have bM_l := bM.lt
          have bR_0 := bR.cell 0 rfl
          have bR_1 := bR.cell 1 rfl
          have bR_2 := bR.cell 2 rfl
          have bR_3 := bR.cell 3 rfl
          have bR_4 := bR.cell 4 rfl
          have bR_l := bR.lt
          go_wp2_with fail
          refine (K4.out _).mono ?_
          rintro e w4 ⟨rfl, hb⟩
          replace bM := bM.on hb
          replace bR := bR.on hb
          replace HB := Lib.hid (bel_end HB.out hb)
          clear hb
          clear bM_0 bM_1 bM_2 bM_3 bM_4 bM_l bR_0 bR_1 bR_2 bR_3 bR_4 bR_l
          have bM_0 := bM.cell 0 rfl
          have bM_1 := bM.cell 1 rfl
          have bM_2 := bM.cell 2 rfl
          have bM_3 := bM.cell 3 rfl
          have bM_4 := bM.cell 4 rfl
          have bM_l := bM.lt
          have bR_0 := bR.cell 0 rfl
          have bR_1 := bR.cell 1 rfl
          have bR_2 := bR.cell 2 rfl
          have bR_3 := bR.cell 3 rfl
          have bR_4 := bR.cell 4 rfl
          have bR_l := bR.lt
          have bR_f0 := bR.frozen 0
          have bR_f1 := bR.frozen 1
          have bR_f2 := bR.frozen 2
          have bR_f3 := bR.frozen 3
          have bR_f4 := bR.frozen 4
          go_wp2
          exact bodyPost_ret (v := .tuple #[.agg #[.int .i64 (x + P), .int .i64 (y + R), .int .i64 u, .int .i64 v, .int .i64 (s + n * 50)], .int .i64 0]) (by simp [results, Try.results16, go_sem, bR_0, bR_f0, bR_1, bR_f1, bR_2, bR_f2, bR_3, bR_f3, bR_4, bR_f4, bR_l]) rfl ⟨ret_mv HT.out, (by repeat (first | exact HB.out | (refine Below.setCell ?_ (by simp <;> omega) _) | (refine Below.alloc ?_ (by simp <;> omega) _) | (refine Below.drew ?_)))⟩
        case neg =>
          have e8 := SN.out (by omega)
          subst e8
          have h9 : 10000 < s + n * 50 := by omega
          clear hs
          have bM_0 := bM.cell 0 rfl
          have bM_1 := bM.cell 1 rfl
          have bM_2 := bM.cell 2 rfl
          have bM_3 := bM.cell 3 rfl
          have bM_4 := bM.cell 4 rfl
          have bM_l := bM.lt
          have bR_0 := bR.cell 0 rfl
          have bR_1 := bR.cell 1 rfl
          have bR_2 := bR.cell 2 rfl
          have bR_3 := bR.cell 3 rfl
          have bR_4 := bR.cell 4 rfl
          have bR_l := bR.lt
          have bM_f0 := bM.frozen 0
          have bM_f1 := bM.frozen 1
          have bM_f2 := bM.frozen 2
          have bM_f3 := bM.frozen 3
          have bM_f4 := bM.frozen 4
          go_upto_region 8 with fail
          clear bM_0 bM_1 bM_2 bM_3 bM_4 bM_l bR_0 bR_1 bR_2 bR_3 bR_4 bR_l
          clear bM_f0 bM_f1 bM_f2 bM_f3 bM_f4
          generalize hW : World.setCell _ _ _ = WS3
          replace bM : Bk WS3 w.heap.size #[.int .i64 (x + P), .int .i64 (y + R), .int .i64 u, .int .i64 v, .int .i64 10000] 25 := by rw [← hW]; exact bM.set 4 _ rfl
          replace bR := bR.other (show w.heap.size + 1 ≠ w.heap.size by omega) 4 (.int .i64 10000)
          rw [hW] at bR
          replace HB := Lib.hid (HB.out.setCell (p := ⟨w.heap.size, 4, none⟩) (by simp) (.int .i64 10000))
          rw [hW] at HB
          clear hW
          have bM_0 := bM.cell 0 rfl
          have bM_1 := bM.cell 1 rfl
          have bM_2 := bM.cell 2 rfl
          have bM_3 := bM.cell 3 rfl
          have bM_4 := bM.cell 4 rfl
          have bM_l := bM.lt
          have bR_0 := bR.cell 0 rfl
          have bR_1 := bR.cell 1 rfl
          have bR_2 := bR.cell 2 rfl
          have bR_3 := bR.cell 3 rfl
          have bR_4 := bR.cell 4 rfl
          have bR_l := bR.lt
          go_wp2_with fail
          refine (K3.out _).mono ?_
          rintro e w3 ⟨rfl, hb⟩
          replace bM := bM.on hb
          replace bR := bR.on hb
          replace HB := Lib.hid (bel_end HB.out hb)
          clear hb
          clear bM_0 bM_1 bM_2 bM_3 bM_4 bM_l bR_0 bR_1 bR_2 bR_3 bR_4 bR_l
          have bM_0 := bM.cell 0 rfl
          have bM_1 := bM.cell 1 rfl
          have bM_2 := bM.cell 2 rfl
          have bM_3 := bM.cell 3 rfl
          have bM_4 := bM.cell 4 rfl
          have bM_l := bM.lt
          have bR_0 := bR.cell 0 rfl
          have bR_1 := bR.cell 1 rfl
          have bR_2 := bR.cell 2 rfl
          have bR_3 := bR.cell 3 rfl
          have bR_4 := bR.cell 4 rfl
          have bR_l := bR.lt
          go_wp2_with fail
          refine (K4.out _).mono ?_
          rintro e w4 ⟨rfl, hb⟩
          replace bM := bM.on hb
          replace bR := bR.on hb
          replace HB := Lib.hid (bel_end HB.out hb)
          clear hb
          clear bM_0 bM_1 bM_2 bM_3 bM_4 bM_l bR_0 bR_1 bR_2 bR_3 bR_4 bR_l
          have bM_0 := bM.cell 0 rfl
          have bM_1 := bM.cell 1 rfl
          have bM_2 := bM.cell 2 rfl
          have bM_3 := bM.cell 3 rfl
          have bM_4 := bM.cell 4 rfl
          have bM_l := bM.lt
          have bR_0 := bR.cell 0 rfl
          have bR_1 := bR.cell 1 rfl
          have bR_2 := bR.cell 2 rfl
          have bR_3 := bR.cell 3 rfl
          have bR_4 := bR.cell 4 rfl
          have bR_l := bR.lt
          have bR_f0 := bR.frozen 0
          have bR_f1 := bR.frozen 1
          have bR_f2 := bR.frozen 2
          have bR_f3 := bR.frozen 3
          have bR_f4 := bR.frozen 4
          go_wp2
          exact bodyPost_ret (v := .tuple #[.agg #[.int .i64 (x + P), .int .i64 (y + R), .int .i64 u, .int .i64 v, .int .i64 10000], .int .i64 0]) (by simp [results, Try.results16, go_sem, bR_0, bR_f0, bR_1, bR_f1, bR_2, bR_f2, bR_3, bR_f3, bR_4, bR_f4, bR_l]) rfl ⟨ret_mv HT.out, (by repeat (first | exact HB.out | (refine Below.setCell ?_ (by simp <;> omega) _) | (refine Below.alloc ?_ (by simp <;> omega) _) | (refine Below.drew ?_)))⟩
end Go.Proofs.Ytdkiikmmlfdlcaa
